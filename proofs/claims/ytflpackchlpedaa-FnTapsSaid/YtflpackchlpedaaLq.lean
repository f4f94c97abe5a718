/- The tail of a loose region (what stores or makes memory behind it), and the steps of its walk. -/
import Derived.Test.YtflpackchlpedaaLo
import Derived.Test.YtflpackchlpedaaSm
import Derived.StillTail
set_option linter.unusedVariables false
set_option linter.unusedSimpArgs false
namespace Go.Proofs.Ytflpackchlpedaa
theorem Fl.fvs {r : Nat} (h : r < 4294967296) : Fl.Fv .f32 r (Fl.ab .f32 r) := ⟨h, rfl⟩
@[go_sem] theorem Fl.set_drewN (w : World) (n : Nat) (p : Addr) (v : Value) : (w.drewN n).setCell p v = (w.setCell p v).drewN n := by
  unfold World.setCell World.drewN
  dsimp only
@[go_sem] theorem Fl.alloc_drewN (w : World) (n : Nat) (o : Obj) : (w.drewN n).alloc o = (w.alloc o).drewN n := rfl
theorem Fl.sinStep {w w1 w2 : World} (k : RowKit.Hid (w1.Since w1.heap.size w2)) (h : w.Since w.heap.size w1) : w.Since w.heap.size w2 := Fl.since_step h k
/-- every old cell and mark reads as before -/
theorem Fl.sinCell {B : Nat} {a w : World} (h : a.Since B w) : (∀ b o, b < B → w.cell? ⟨b, o, none⟩ = a.cell? ⟨b, o, none⟩) ∧ (∀ b o, b < B → w.frozen? ⟨b, o, none⟩ = a.frozen? ⟨b, o, none⟩) :=
  ⟨fun b o hb => h.cell (a := ⟨b, o, none⟩) hb, fun b o hb => h.frozen (a := ⟨b, o, none⟩) hb⟩
theorem Fl.size_drewN (w : World) (n : Nat) : (w.drewN n).heap.size = w.heap.size := rfl
theorem Fl.sinDrew {B : Nat} {a w : World} {n : Nat} (h : a.Since B w) : a.Since B (w.drewN n) := Fl.since_drewN h n
theorem Fl.sinSet {B : Nat} {a w : World} {p : Addr} {v : Value} (ha : B ≤ p.block) (h : a.Since B w) : a.Since B (w.setCell p v) := h.setCell ha v
theorem Fl.sinAlloc {B : Nat} {a w : World} {o : Obj} (hB : B ≤ w.heap.size) (h : a.Since B w) : a.Since B (w.alloc o) := h.alloc hB o
namespace Lo
open Fl Ieee

section
variable {P : Program} {ops : Array Oper} {md : Region.Mode} {C : World → Prop} {D : Nat → Bool}

/-- Every order of the head, whose leaves satisfy L. -/
def anyM (P : Program) (md : Region.Mode) (ops : Array Oper) (C : World → Prop) (D : Nat → Bool) (n : Nat) (L : Array Bool → Act → Prop) : Nat → Array Bool → Act → Prop
  | 0, listed, a => L listed a
  | f + 1, listed, a => Region.ready md ops listed ≠ [] ∧ ∀ i ∈ Region.ready md ops listed, i < n ∧ at1 P ops C D i (anyM P md ops C D n L f (listed.setIfInBounds i true)) a

theorem wpAny_of_anyM {n g : Nat} {L : Array Bool → Act → Prop} {Q2 : Exit → Act → World → Prop} (hL : ∀ listed a b w, C w → AR D a b → L listed a → wpAny P md ops Q2 g listed b w) :
    ∀ (f : Nat) (listed : Array Bool) (a b : Act) (w : World), C w → AR D a b → anyM P md ops C D n L f listed a → wpAny P md ops Q2 (f + g) listed b w
  | 0, _, _, _, _, hw, hab, h => by rw [Nat.zero_add]; exact hL _ _ _ _ hw hab h
  | f + 1, _, _, _, _, hw, hab, h => by
    rw [show f + 1 + g = (f + g) + 1 by omega]
    exact ⟨fun h0 => absurd h0 h.1, fun i hi => wp_of_at1 hw hab (fun a2 b2 w2 hw2 hab2 => wpAny_of_anyM hL f _ a2 b2 w2 hw2 hab2) (h.2 i hi).2⟩

theorem anyM_first {n i : Nat} {oi : Oper} {v : Value} {L : Array Bool → Act → Prop} (hi : ops[i]? = some oi) (hsel : ∀ (j : Nat) (o : Oper) cs b, ops[j]? = some o → o.op ≠ .select cs b)
    (hs : Region.sinkB md ops n = true) (hc : Region.chainB md ops n = true) (hn : n < ops.size) (hin : i < n)
    (hdone : ∀ listed a, L listed a → ∀ j ∈ Region.ready md ops listed, n ≤ j) :
    ∀ (f : Nat) (listed : Array Bool) (a : Act), HeadInv md ops n listed →
      (∀ j oj, ops[j]? = some oj → j ≠ i → listed.getD j true = false → (∀ e ∈ oj.after, Region.binds md e = true → e.on ≠ i) → oi.apart ops oj = true) →
      i ∈ Region.ready md ops listed → Yl P ops C D oi v a →
      anyM P md ops C D n L f (listed.setIfInBounds i true) (a.put oi.dst v) → anyM P md ops C D n L (f + 1) listed a := by
  intro f
  induction f with
  | zero =>
    intro listed a inv _ hr hy H
    have hun := (mem_ready.1 hr).1
    refine ⟨fun h => (by rw [h] at hr; cases hr), fun j hj => ?_⟩
    have hjn : j < n := Nat.lt_of_not_le fun h => absurd hj (tail_waits hs hc hn inv _ i rfl hin hun j h)
    refine ⟨hjn, ?_⟩
    by_cases e : j = i
    · subst e; exact at1_of_Yl hi hy H
    · have := hdone _ _ H j (ready_mono hj e)
      omega
  | succ f ih =>
    intro listed a inv hfree hr hy H
    have hun := (mem_ready.1 hr).1
    refine ⟨fun h => (by rw [h] at hr; cases hr), fun j hj => ?_⟩
    have hjn : j < n := Nat.lt_of_not_le fun h => absurd hj (tail_waits hs hc hn inv _ i rfl hin hun j h)
    refine ⟨hjn, ?_⟩
    by_cases e : j = i
    · subst e; exact at1_of_Yl hi hy H
    · obtain ⟨hjun, oj, hoj, hall⟩ := mem_ready.1 hj
      have hnot : ∀ x ∈ oj.after, Region.binds md x = true → x.on ≠ i := fun x hx hb heq => by
        have g1 := hall x hx hb
        rw [heq, getD_both hun] at g1
        cases g1
      have hsw := at1_swap hoj (hfree j oj hoj e hjun hnot) (fun cs b => hsel i oi cs b hi) (fun cs b => hsel j oj cs b hoj) hy (H.2 j (ready_mono hj e)).2
      refine at1_mono (fun b hb => ih (listed.setIfInBounds j true) b (inv.set hj hjn) (fun k ok hk hki hun2 hno => ?_) (ready_mono hr (Ne.symm e)) hb.1 ?_) hsw
      · refine hfree k ok hk hki ?_ hno
        by_cases hjk : j = k
        · subst hjk; exact hjun
        · rw [getD_set_ne true hjk] at hun2; exact hun2
      · rw [Array.setIfInBounds_comm _ _ e]
        exact hb.2

theorem anyM_text {n g : Nat} {Lq : Act → Prop} (hsel : Region.noSelect ops = true) (hs : Region.sinkB md ops n = true) (hc : Region.chainB md ops n = true) (hn : n < ops.size) :
    ∀ (l : List Oper) (k : Nat) (listed : Array Bool) (a : Act), (∀ j, j < l.length → l[j]? = ops[k + j]?) → k + l.length = n → HeadInv md ops n listed →
    Region.lexHead md ops g l.length k listed = true → wpL P ops C D Lq l a →
    anyM P md ops C D n (fun listed2 a2 => Region.seqB md ops g n listed2 = true ∧ Lq a2) l.length listed a
  | [], k, listed, a, _, hk, _, hB, h => by
    have : k = n := by simpa using hk
    subst this
    exact ⟨by simpa [Region.lexHead] using hB, h⟩
  | o :: l, k, listed, a, hl, hk, inv, hB, h => by
    have h0 : ops[k]? = some o := by simpa using (hl 0 (by simp)).symm
    simp only [List.length_cons, Region.lexHead, Bool.and_eq_true] at hB
    obtain ⟨⟨hr, hf⟩, hB2⟩ := hB
    have hkn : k < n := by simp only [List.length_cons] at hk; omega
    have hr2 : k ∈ Region.ready md ops listed := by simpa using hr
    have hst : at1 P ops C D k (wpL P ops C D Lq l) a := by unfold at1; rw [h0]; exact h
    obtain ⟨v, hy, hK⟩ := Yl_of_at1 h0 hst
    exact anyM_first h0 (Region.noSelect_spec hsel) hs hc hn hkn (fun listed2 a2 hL => seqB_ready hL.1) l.length listed a inv (Region.free_spec h0 hf) hr2 hy
      (anyM_text hsel hs hc hn l (k + 1) _ _ (fun j hj => by have := hl (j + 1) (by simp; omega); simpa [Nat.add_assoc, Nat.add_comm 1 j] using this) (by simp only [List.length_cons] at hk; omega) (inv.set hr2 hkn) hB2 hK)
end

/-- What stands behind the head: from every frame alike, behind some draws. -/
def After (ds : List Nat) (a : Act) (R : Act → Nat → Prop) : Prop := ∀ b, AR (fun i => ds.contains i) a b → ∀ m, R b m

/-- The same as wp_loose, the last operations (from number n on) being walked as they stand. -/
theorem wp_loose_tail {P : Program} {id : Nat} {Q : Exit → Act → World → Prop} {a : Act} {w : World} {l : List Oper} (ds : List Nat) (n : Nat) (hm : P.follows .mixedOrders = true) (hB : Region.lexTailB .any l.toArray n = true)
    (h : wpL P l.toArray (fun v => ∃ n, v = w.drewN n) (fun i => ds.contains i) (fun a2 => After ds a2 fun b m => wpList P l.toArray Q (l.drop n) b (w.drewN m)) (l.take n) a) : (Code.region id l.toArray true).wp P Q a w := by
  simp only [Region.lexTailB, Bool.and_eq_true, decide_eq_true_eq] at hB
  obtain ⟨⟨⟨⟨hsel, hn⟩, hs⟩, hc⟩, hlex⟩ := hB
  have hn2 : n < l.length := by simpa using hn
  have htl : (l.take n).length = n := by simp; omega
  have hdl : (l.drop n).length = l.toArray.size - n := by simp
  have inv0 : HeadInv .any l.toArray n (Array.replicate l.toArray.size false) :=
    ⟨by simp, fun j oj _ hl => (by rw [getD_replicate_false] at hl; cases hl), fun t _ ht => getD_in (by simpa using ht) (getD_replicate_false _ _)⟩
  have H := anyM_text (md := .any) (g := l.toArray.size - n) hsel hs hc hn (l.take n) 0 _ a (fun j hj => by
    have hj2 : j < n := by rw [htl] at hj; exact hj
    simp [hj2]) (by simpa using htl) inv0 (by rw [htl]; exact hlex) h
  refine wp_region_any hm ?_
  have := wpAny_of_anyM (Q2 := Q) (g := l.toArray.size - n) (fun listed a2 b w2 hw hab hL => by
    obtain ⟨m, rfl⟩ := hw
    have := wpAny_of_seq (md := .any) (Q' := Q) (l.drop n) n listed b (w.drewN m) (fun j => by simp [List.getElem?_drop]) (by rw [hdl]; exact hL.1) (hL.2 b hab m)
    rwa [hdl] at this) _ _ a a { w with drawn := w.drawn + 1 } ⟨1, rfl⟩ (AR.refl _ _) H
  rw [htl, show n + (l.toArray.size - n) = l.toArray.size by omega] at this
  exact this

/-- wp_loose with its end under the same word. -/
theorem wp_loose_all {P : Program} {id : Nat} {Q : Exit → Act → World → Prop} {a : Act} {w : World} {l : List Oper} (ds : List Nat) (hm : P.follows .mixedOrders = true) (hB : Region.lexB .any l.toArray = true)
    (h : wpL P l.toArray (fun v => ∃ n, v = w.drewN n) (fun i => ds.contains i) (fun a2 => After ds a2 fun b m => Q .normal b (w.drewN m)) l a) : (Code.region id l.toArray true).wp P Q a w :=
  wp_loose ds hm hB h

/-- the four operations in a plain walk, from what the operands stand for -/
theorem wpList_fo {P : Program} (w : World) {ops : Array Oper} {rest : List Oper} {o : Oper} {a : Act} {Q : Exit → Act → World → Prop}
    (hg : o.guard = none) (op : BinOp) (t t2 : TypeId) (x y : Operand) (hop : o.op = Op.binOp op t x y t2) (k : FloatKind) (p q : Nat) (u v : Option Nat)
    (hx : a.eval x = .float k p) (hy : a.eval y = .float k q) (hf : isF op = true) (hp : RowKit.Hid (Fv k p u)) (hq : RowKit.Hid (Fv k q v))
    (hK : ∀ (r n : Nat), RowKit.Hid (Fv k r (opO op k u v)) → wpList P ops Q rest (a.put o.dst (.float k r)) (w.drewN n)) : wpList P ops Q (o :: rest) a w :=
  wpList_fop w hg op t t2 x y hop k p q hx hy hf fun r n h => hK r n (by rw [hp.2, hq.2] at h; exact h)
theorem wpList_wi {P : Program} (w : World) {ops : Array Oper} {rest : List Oper} {o : Oper} {a : Act} {Q : Exit → Act → World → Prop}
    (hg : o.guard = none) (src dst : TypeId) (x : Operand) (hop : o.op = Op.convert src dst x) (p : Nat) (u : Option Nat)
    (hx : a.eval x = .float .f32 p) (hs : (P.underlying src).isSome = true) (hd : P.underlying dst = some (.float .f64)) (hp : RowKit.Hid (Fv .f32 p u))
    (hK : ∀ (r n : Nat), RowKit.Hid (Fv .f64 r (wide u)) → wpList P ops Q rest (a.put o.dst (.float .f64 r)) (w.drewN n)) : wpList P ops Q (o :: rest) a w :=
  wpList_wide w hg src dst x hop p hx hs hd hp.1 fun r n h => hK r n (by rw [hp.2] at h; exact h)

/-! ### the end: the slots one by one -/
theorem after_nil {a : Act} {R : Act → Nat → Prop} (h : ∀ m, R a m) : After [] a R := by
  intro b hab m
  obtain ⟨h1, h2, h3⟩ := hab
  have e : b = a := by
    obtain ⟨bt, bd⟩ := b
    obtain ⟨at_, ad⟩ := a
    simp only at h1 h2 h3
    subst h1
    congr 1
    apply Array.ext h2
    intro i hi1 hi2
    have := (h3 i).2 rfl
    simpa [Array.getD_eq_getD_getElem?, hi1, hi2] using this
  subst e
  exact h m

theorem after_cons {d : Nat} {ds : List Nat} {a : Act} {R : Act → Nat → Prop} (h : ∀ u, VR (a.tmps.getD d undef) u → After ds (a.put (some d) u) R) : After (d :: ds) a R := by
  intro b hab m
  refine h (b.tmps.getD d undef) (hab.2.2 d).1 b ⟨hab.1, by simpa [Act.put] using hab.2.1, fun i => ?_⟩ m
  simp only [Act.put]
  rw [getD_put]
  by_cases hc : d = i ∧ d < a.tmps.size
  · rw [if_pos hc, hc.1]
    exact ⟨.inl rfl, fun _ => rfl⟩
  · rw [if_neg hc]
    refine ⟨(hab.2.2 i).1, fun hi => ?_⟩
    by_cases e : d = i
    · subst e
      have hs : ¬ d < a.tmps.size := fun h => hc ⟨rfl, h⟩
      have e1 : a.tmps.getD d undef = undef := by simp [Array.getD_eq_getD_getElem?, Array.getElem?_eq_none (Nat.le_of_not_lt hs)]
      have e2 : b.tmps.getD d undef = undef := by
        have h2 := hab.2.1
        simp [Array.getD_eq_getD_getElem?, Array.getElem?_eq_none (show b.tmps.size ≤ d by omega)]
      rw [e1, e2]
    · refine (hab.2.2 i).2 ?_
      simp only [List.contains_cons, Bool.or_eq_false_iff]
      exact ⟨by simpa using fun h => e h.symm, hi⟩

theorem VR_fl {k : FloatKind} {p : Nat} {u : Value} {F : Option Nat} (hp : Fv k p F) (h : VR (.float k p) u) : ∃ q, u = .float k q ∧ Fv k q F := by
  rcases h with rfl | ⟨k2, p2, q, e1, rfl, h1, h2, h3⟩
  · exact ⟨p, rfl, hp⟩
  · injection e1 with e1 e2
    subst e1; subst e2
    exact ⟨q, rfl, h2, by rw [← h3]; exact hp.2⟩

/-- a float's slot at the end -/
theorem after_fl {d : Nat} {ds : List Nat} {a : Act} {R : Act → Nat → Prop} {k : FloatKind} {p : Nat} {F : Option Nat} (hv : a.tmps.getD d undef = .float k p) (hp : RowKit.Hid (Fv k p F))
    (h : ∀ q, RowKit.Hid (Fv k q F) → After ds (a.put (some d) (.float k q)) R) : After (d :: ds) a R :=
  after_cons fun u hu => by
    rw [hv] at hu
    obtain ⟨q, rfl, hq⟩ := VR_fl hp hu
    exact h q hq

/-! ### the steps -/
theorem eval_AR {D : Nat → Bool} {a b : Act} (h : AR D a b) (x : Operand) : VR (a.eval x) (b.eval x) := by
  cases x with
  | tmp t => exact (h.2.2 t).1
  | const v => exact .inl rfl
  | global g => exact .inl rfl
  | func f => exact .inl rfl

def avoid (ds : List Nat) (o : Oper) : Bool := (o.op.operands.toList.all fun x => match x with | .tmp t => !ds.contains t | _ => true) && (match o.op with | .select .. => false | _ => true)

theorem eval_avoid {ds : List Nat} {a b : Act} (h : AR (fun i => ds.contains i) a b) {o : Oper} (ho : avoid ds o = true) : execOp b.eval o = execOp a.eval o := by
  unfold avoid at ho
  rw [Bool.and_eq_true] at ho
  refine execOp_congr o (fun cs bb e => by rw [e] at ho; simp at ho) fun x hx => ?_
  have h1 := List.all_eq_true.1 ho.1 x (by simpa using hx)
  cases x with
  | tmp t =>
    simp only [Bool.not_eq_true'] at h1
    exact (h.2.2 t).2 h1
  | const v => rfl
  | global g => rfl
  | func f => rfl

section
variable {P : Program} {ops : Array Oper} {C : World → Prop} {ds : List Nat} {Q : Act → Prop} {a : Act} {o : Oper} {rest : List Oper}

theorem wanted_none (hg : o.guard = none) (y : Nat → Option Bool) : Region.wanted o y = true := by unfold Region.wanted; rw [hg]

theorem wpL_nil (h : Q a) : wpL P ops C (fun i => ds.contains i) Q [] a := h

theorem wpL_of_loose {v : Value} (hg : o.guard = none) (h : loose P C (fun i => ds.contains i) o a v) (hK : wpL P ops C (fun i => ds.contains i) Q rest (a.put o.dst v)) : wpL P ops C (fun i => ds.contains i) Q (o :: rest) a := by
  unfold wpL
  rw [if_pos (wanted_none hg _)]
  exact ⟨v, h, hK⟩

/-- an operation that looks at no float of the statement's own -/
theorem wpL_quiet (hg : o.guard = none) (ho : avoid ds o = true) (h : ∀ K : Act → Prop, (∀ a, wpL P ops C (fun i => ds.contains i) Q rest a → K a) → o.quiet P a C K) : wpL P ops C (fun i => ds.contains i) Q (o :: rest) a := by
  obtain ⟨v, h1, h2⟩ := h _ (fun _ h => h)
  refine wpL_of_loose hg (fun b hab w hw => ?_) h2
  rw [eval_avoid hab ho]
  have h3 := h1 w hw
  unfold Oper.quietAt at h3
  generalize (execOp a.eval o).run P w = r at h3
  cases r with
  | ok n w2 =>
    cases n <;> simp only [Oper.quietUpon] at h3 <;> simp only [upon]
    case value u => obtain ⟨rfl, rfl⟩ := h3; exact ⟨hw, okv.refl ..⟩
    case skip => obtain ⟨rfl, rfl⟩ := h3; exact ⟨hw, rfl⟩
    case enter f args =>
      obtain ⟨rfl, hc⟩ := h3
      exact ⟨hw, hc.mono fun e w3 ⟨he, hw3⟩ => ⟨v, he, okv.refl .., hw3⟩⟩
  | halt x w2 => simp only [Oper.quietUpon] at h3

/-- a float moved -/
theorem wpL_move (hg : o.guard = none) (x : Operand) (hop : o.op = .move x ∨ o.op = .assign x) (hd : ∀ d, o.dst = some d → ds.contains d = true)
    (hK : wpL P ops C (fun i => ds.contains i) Q rest (a.put o.dst (a.eval x))) : wpL P ops C (fun i => ds.contains i) Q (o :: rest) a := by
  refine wpL_of_loose hg (fun b hab w hw => ?_) hK
  have e : (execOp b.eval o).run P w = .ok (.value (b.eval x)) w := by
    rcases hop with h | h
    · exact BigFrame.run_move x h w
    · exact BigFrame.run_assign x h w
  rw [e]
  exact ⟨hw, eval_AR hab x, fun d he hf => by have := hd d he; simp_all⟩

theorem fv_ex {op : BinOp} (hf : isF op = true) (k : FloatKind) (u v : Option Nat) (p q : Nat) (hp : Fv k p u) (hq : Fv k q v) : ∃ r, Fv k r (opO op k u v) := by
  cases h : opO op k u v with
  | none => cases k; exact ⟨_, fv_nan32 0⟩; exact ⟨_, fv_nan64 0⟩
  | some r =>
    rw [← hp.2, ← hq.2, ← floatBits_ab (isF_of hf)] at h
    exact ⟨r, fv_op (isF_of hf) h⟩

theorem drew_ok {w : World} {v : World} (h : ∃ n, v = w.drewN n) (m : Nat) : ∃ n, v.drewN m = w.drewN n := by
  obtain ⟨n, rfl⟩ := h
  exact ⟨n + m, by rw [World.drewN_drewN]⟩

theorem wpL_fop {w : World} {op : BinOp} (hg : o.guard = none) (t t2 : TypeId) (x y : Operand) (hop : o.op = Op.binOp op t x y t2) (hf : isF op = true) (hd : ∀ d, o.dst = some d → ds.contains d = true) (k : FloatKind) (p q : Nat) (u v : Option Nat)
    (hx : a.eval x = .float k p) (hy : a.eval y = .float k q) (hp : RowKit.Hid (Fv k p u)) (hq : RowKit.Hid (Fv k q v))
    (hK : ∀ r, RowKit.Hid (Fv k r (opO op k u v)) → wpL P ops (fun v => ∃ n, v = w.drewN n) (fun i => ds.contains i) Q rest (a.put o.dst (.float k r))) :
    wpL P ops (fun v => ∃ n, v = w.drewN n) (fun i => ds.contains i) Q (o :: rest) a := by
  obtain ⟨r, hr⟩ := fv_ex hf k u v p q hp hq
  refine wpL_of_loose hg (fun b hab w2 hw => ?_) (hK r hr)
  obtain ⟨p2, e1, hp2⟩ := VR_fl hp (by rw [← hx]; exact eval_AR hab x)
  obtain ⟨q2, e2, hq2⟩ := VR_fl hq (by rw [← hy]; exact eval_AR hab y)
  have he : eqGuard op t x y (.float k p2) (.float k q2) = pure () := by
    rcases isF_of hf with rfl | rfl | rfl | rfl <;> rfl
  have e : (execOp b.eval o).run P w2 = .ok (.value (.float k (ov op k p2 q2 w2))) (w2.drewN (on op k p2 q2)) := by
    simp [execOp, hop, e1, e2, he, run_fopE (P := P) hf t k p2 q2 w2, Result.andThen]
  rw [e]
  have h2 := ov_fv hf k p2 q2 w2
  rw [hp2.2, hq2.2] at h2
  exact ⟨drew_ok hw _, .inr ⟨k, r, _, rfl, rfl, hr.1, h2.1, by rw [hr.2, h2.2]⟩, fun d hd2 hf2 => by have := hd d hd2; simp_all⟩

/-- a single-precision float made wide -/
theorem wpL_wide {w : World} (hg : o.guard = none) (src dst : TypeId) (x : Operand) (hop : o.op = Op.convert src dst x) (hd : ∀ d, o.dst = some d → ds.contains d = true) (p : Nat) (u : Option Nat)
    (hx : a.eval x = .float .f32 p) (hs : (P.underlying src).isSome = true) (hdst : P.underlying dst = some (.float .f64)) (hp : RowKit.Hid (Fv .f32 p u))
    (hK : ∀ r, RowKit.Hid (Fv .f64 r (wide u)) → wpL P ops (fun v => ∃ n, v = w.drewN n) (fun i => ds.contains i) Q rest (a.put o.dst (.float .f64 r))) :
    wpL P ops (fun v => ∃ n, v = w.drewN n) (fun i => ds.contains i) Q (o :: rest) a := by
  have hr : Fv .f64 (wv p w) (wide u) := by have := wv_fv p w; rw [hp.2] at this; exact this
  refine wpL_of_loose hg (fun b hab w2 hw => ?_) (hK _ hr)
  obtain ⟨p2, e1, hp2⟩ := VR_fl hp (by rw [← hx]; exact eval_AR hab x)
  have e : (execOp b.eval o).run P w2 = .ok (.value (.float .f64 (wv p2 w2))) (w2.drewN (wn p2)) := by
    simp [execOp, hop, e1, run_wide (P := P) src dst p2 hs hdst w2, Result.andThen]
  rw [e]
  have h2 := wv_fv p2 w2
  rw [hp2.2] at h2
  exact ⟨drew_ok hw _, .inr ⟨.f64, _, _, rfl, rfl, hr.1, h2.1, by rw [hr.2, h2.2]⟩, fun d hd2 hf2 => by have := hd d hd2; simp_all⟩

/-- a call of a Go function with one float of the statement's own in front, which gives a float -/
theorem wpL_call1 {w : World} (hg : o.guard = none) (f : FuncId) (x : Operand) (ys : List Operand) (vs : List Value) (tys : Array TypeId) (hop : o.op = Op.call ⟨.value (.func f), (x :: ys).toArray, tys⟩) (hd : ∀ d, o.dst = some d → ds.contains d = true)
    (henter : ∀ args w2, (callFunc f args).run P w2 = .ok (.enter f args) w2)
    (k : FloatKind) (p : Nat) (u : Option Nat) (k2 : FloatKind) (F : Option Nat)
    (hx : a.eval x = .float k p) (hys : ∀ b, AR (fun i => ds.contains i) a b → ys.map b.eval = vs) (hp : RowKit.Hid (Fv k p u))
    (hc : ∀ q m, Fv k q u → Calls P f (Value.float k q :: vs).toArray (w.drewN m) fun e w2 => ∃ r n, e = .returned (.float k2 r) ∧ Fv k2 r F ∧ w2 = w.drewN n)
    (hex : ∃ r, Fv k2 r F)
    (hK : ∀ r, RowKit.Hid (Fv k2 r F) → wpL P ops (fun v => ∃ n, v = w.drewN n) (fun i => ds.contains i) Q rest (a.put o.dst (.float k2 r))) :
    wpL P ops (fun v => ∃ n, v = w.drewN n) (fun i => ds.contains i) Q (o :: rest) a := by
  obtain ⟨r, hr⟩ := hex
  refine wpL_of_loose hg (fun b hab w2 hw => ?_) (hK r hr)
  obtain ⟨p2, e1, hp2⟩ := VR_fl hp (by rw [← hx]; exact eval_AR hab x)
  have e : (execOp b.eval o).run P w2 = .ok (.enter f (Value.float k p2 :: vs).toArray) w2 := by
    have h1 := hys b hab
    have ef : b.eval (.func f) = .func (.func f) #[] #[] := rfl
    simp [execOp, hop, resolve, ef, e1, h1, invoke, Deferred.ofValue, henter, Result.andThen]
  rw [e]
  obtain ⟨m, rfl⟩ := hw
  refine ⟨⟨m, rfl⟩, (hc p2 m hp2).mono fun e2 w3 ⟨r2, n, he, hr2, hw3⟩ => ⟨_, he, ⟨.inr ⟨k2, r, r2, rfl, rfl, hr.1, hr2.1, by rw [hr.2, hr2.2]⟩, fun d hd2 hf2 => by have := hd d hd2; simp_all⟩, n, hw3⟩⟩
end
end Lo
end Go.Proofs.Ytflpackchlpedaa
