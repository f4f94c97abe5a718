/- Statements whose order is open and whose floats may be not-a-numbers: one walk in the order of the text serves every order, values being held modulo the bits of not-a-numbers. -/
import Derived.Test.YtflpackchlpedaaFl
import Derived.Deep.QuietTactic
import Derived.BigQuiet
import Derived.Lib.Hide
set_option linter.unusedVariables false
set_option linter.unusedSimpArgs false
namespace Go.Proofs.Ytflpackchlpedaa
namespace Lo
open Fl Ieee

/-- The same value, or two floats that stand for the same. -/
def VR (v u : Value) : Prop := v = u ∨ ∃ (k : FloatKind) (p q : Nat), v = .float k p ∧ u = .float k q ∧ p < 2 ^ k.format.width ∧ q < 2 ^ k.format.width ∧ ab k p = ab k q
/-- Frames that part at most in the slots D, and there by a not-a-number's bits. -/
def AR (D : Nat → Bool) (a b : Act) : Prop := b.defers = a.defers ∧ b.tmps.size = a.tmps.size ∧ ∀ i, VR (a.tmps.getD i undef) (b.tmps.getD i undef) ∧ (D i = false → b.tmps.getD i undef = a.tmps.getD i undef)
def okv (D : Nat → Bool) (dst : Option Tmp) (v u : Value) : Prop := VR v u ∧ ∀ d, dst = some d → D d = false → u = v

theorem VR.refl (v : Value) : VR v v := .inl rfl
theorem AR.refl (D : Nat → Bool) (a : Act) : AR D a a := ⟨rfl, rfl, fun i => ⟨.inl rfl, fun _ => rfl⟩⟩
theorem okv.refl (D : Nat → Bool) (dst : Option Tmp) (v : Value) : okv D dst v v := ⟨.inl rfl, fun _ _ _ => rfl⟩

theorem getD_put (xs : Array Value) (d i : Nat) (v : Value) : (xs.setIfInBounds d v).getD i undef = if d = i ∧ d < xs.size then v else xs.getD i undef := by
  simp only [Array.getD_eq_getD_getElem?]
  by_cases h : d = i
  · subst h
    by_cases h2 : d < xs.size
    · simp [h2]
    · simp [h2]
  · simp [h, Array.getElem?_setIfInBounds_ne h]

theorem AR.put {D : Nat → Bool} {a b : Act} (h : AR D a b) {dst : Option Tmp} {v u : Value} (hv : okv D dst v u) : AR D (a.put dst v) (b.put dst u) := by
  cases dst with
  | none => exact h
  | some d =>
    obtain ⟨h1, h2, h3⟩ := h
    refine ⟨h1, by simpa [Act.put] using h2, fun i => ?_⟩
    simp only [Act.put]
    rw [getD_put, getD_put, h2]
    by_cases hc : d = i ∧ d < a.tmps.size
    · rw [if_pos hc, if_pos hc]
      exact ⟨hv.1, fun hi => hv.2 d rfl (by rw [hc.1]; exact hi)⟩
    · rw [if_neg hc, if_neg hc]
      exact h3 i

theorem getD_of_lt (xs : Array Value) (t : Nat) (h : t < xs.size) : xs[t]? = some (xs.getD t undef) := by
  simp [Array.getD_eq_getD_getElem?, h]

theorem yielded_AR {D : Nat → Bool} {a b : Act} (h : AR D a b) (ops : Array Oper) : yielded ops b.tmps = yielded ops a.tmps := by
  funext j
  unfold yielded
  cases ht : (ops[j]?).bind (·.dst) with
  | none => rfl
  | some t =>
    simp only [Option.bind_some]
    by_cases hs : t < a.tmps.size
    · rw [getD_of_lt b.tmps t (by rw [h.2.1]; exact hs), getD_of_lt a.tmps t hs]
      rcases (h.2.2 t).1 with e | ⟨k, p, q, e1, e2, _⟩
      · rw [e]
      · rw [e1, e2]
    · have e1 : a.tmps[t]? = none := Array.getElem?_eq_none (Nat.le_of_not_lt hs)
      have e2 : b.tmps[t]? = none := Array.getElem?_eq_none (by rw [h.2.1]; exact Nat.le_of_not_lt hs)
      rw [e1, e2]

section
variable {P : Program} {ops : Array Oper} {md : Region.Mode} {C : World → Prop} {D : Nat → Bool}

def upon (P : Program) (C : World → Prop) (D : Nat → Bool) (dst : Option Tmp) (v : Value) : Result Next → Prop
  | .ok (.value u) w => C w ∧ okv D dst v u
  | .ok .skip w => C w ∧ v = undef
  | .ok (.enter f args) w => C w ∧ Calls P f args w (fun e w2 => ∃ u, e = .returned u ∧ okv D dst v u ∧ C w2)
  | _ => False

/-- From every frame alike and in every world of the class the operation leaves a value alike. -/
def loose (P : Program) (C : World → Prop) (D : Nat → Bool) (o : Oper) (a : Act) (v : Value) : Prop :=
  ∀ b, AR D a b → ∀ w, C w → upon P C D o.dst v ((execOp b.eval o).run P w)

/-- The walk in the order of the text. -/
def wpL (P : Program) (ops : Array Oper) (C : World → Prop) (D : Nat → Bool) (Q : Act → Prop) : List Oper → Act → Prop
  | [], a => Q a
  | o :: rest, a => if Region.wanted o (yielded ops a.tmps) then ∃ v, loose P C D o a v ∧ wpL P ops C D Q rest (a.put o.dst v) else wpL P ops C D Q rest (a.put o.dst undef)

def at1 (P : Program) (ops : Array Oper) (C : World → Prop) (D : Nat → Bool) (i : Nat) (K : Act → Prop) (a : Act) : Prop :=
  match ops[i]? with
  | none => K a
  | some o => if Region.wanted o (yielded ops a.tmps) then ∃ v, loose P C D o a v ∧ K (a.put o.dst v) else K (a.put o.dst undef)

theorem at1_mono {i : Nat} {a : Act} {K K2 : Act → Prop} (h : ∀ a, K a → K2 a) (hh : at1 P ops C D i K a) : at1 P ops C D i K2 a := by
  unfold at1 at *
  cases ho : ops[i]? with
  | none => rw [ho] at hh; exact h _ hh
  | some o =>
    rw [ho] at hh
    simp only at hh ⊢
    by_cases hw : Region.wanted o (yielded ops a.tmps) = true
    · rw [if_pos hw] at hh ⊢
      obtain ⟨v, h1, h2⟩ := hh
      exact ⟨v, h1, h _ h2⟩
    · rw [if_neg hw] at hh ⊢
      exact h _ hh

def anyL (P : Program) (md : Region.Mode) (ops : Array Oper) (C : World → Prop) (D : Nat → Bool) (Q : Act → Prop) : Nat → Array Bool → Act → Prop
  | 0, listed, a => Region.ready md ops listed = [] ∧ Q a
  | n + 1, listed, a => (Region.ready md ops listed = [] → Q a) ∧ ∀ i ∈ Region.ready md ops listed, at1 P ops C D i (anyL P md ops C D Q n (listed.setIfInBounds i true)) a

theorem wp_of_at1 {i : Nat} {a b : Act} {K : Act → Prop} {K2 : Act → World → Prop} {Q2 : Exit → Act → World → Prop} {w : World} (hC : C w) (hab : AR D a b)
    (h : ∀ a b w, C w → AR D a b → K a → K2 b w) (hh : at1 P ops C D i K a) : wpOp P ops Q2 i K2 b w := by
  unfold at1 at hh
  unfold wpOp
  cases ho : ops[i]? with
  | none => rw [ho] at hh; exact h _ _ _ hC hab hh
  | some o =>
    rw [ho] at hh
    simp only at hh ⊢
    rw [yielded_AR hab ops]
    by_cases hw : Region.wanted o (yielded ops a.tmps) = true
    · rw [if_pos hw] at hh ⊢
      obtain ⟨v, h1, h2⟩ := hh
      refine .inl ?_
      have h3 := h1 b hab w hC
      unfold Oper.wp
      generalize (execOp b.eval o).run P w = r at h3
      cases r with
      | ok n w2 =>
        cases n <;> simp only [upon] at h3 <;> simp only [Oper.upon]
        case value u => exact h _ _ _ h3.1 (hab.put h3.2) h2
        case skip => exact h _ _ _ h3.1 (hab.put (by rw [← h3.2]; exact okv.refl ..)) h2
        case enter f args =>
          refine h3.2.mono fun e w3 ⟨u, he, hu, hw3⟩ => ?_
          subst he
          exact h _ _ _ hw3 (hab.put hu) h2
      | halt x w2 => simp only [upon] at h3
    · rw [if_neg hw] at hh ⊢
      exact h _ _ _ hC (hab.put (okv.refl ..)) hh

theorem wpAny_of_anyL {Q : Act → Prop} {Q2 : Exit → Act → World → Prop} (hQ : ∀ a b w, C w → AR D a b → Q a → Q2 .normal b w) : ∀ (n : Nat) (listed : Array Bool) (a b : Act) (w : World), C w → AR D a b →
    anyL P md ops C D Q n listed a → wpAny P md ops Q2 n listed b w
  | 0, _, _, _, _, hw, hab, h => ⟨h.1, hQ _ _ _ hw hab h.2⟩
  | n + 1, _, _, _, _, hw, hab, h => ⟨fun h0 => hQ _ _ _ hw hab (h.1 h0), fun i hi => wp_of_at1 hw hab (fun a2 b2 w2 hw2 hab2 => wpAny_of_anyL hQ n _ a2 b2 w2 hw2 hab2) (h.2 i hi)⟩

theorem put_back (a : Act) (d : Nat) (v : Value) : (a.put (some d) v).put (some d) (a.tmps.getD d undef) = a := by
  obtain ⟨ts, ds⟩ := a
  simp only [Act.put]
  congr 1
  apply Array.ext_getElem?
  intro i
  by_cases h : d = i
  · subst h
    by_cases h2 : d < ts.size
    · simp [h2]
    · simp [h2]
  · simp [Array.getElem?_setIfInBounds_ne h]

/-- An operation that does not look at a slot behaves the same whatever lies there. -/
theorem loose_put {o : Oper} (hs : ∀ cs b, o.op ≠ .select cs b) {a : Act} {dst : Option Tmp} {u v : Value} (h : ∀ d, dst = some d → d ∉ o.looksAt ops) :
    loose P C D o (a.put dst u) v ↔ loose P C D o a v := by
  cases dst with
  | none => exact Iff.rfl
  | some d =>
    constructor
    · intro hl b hab w hw
      have h1 := hl (b.put (some d) u) (hab.put (okv.refl ..)) w hw
      rw [execOp_put (ops := ops) o hs b (some d) u h] at h1
      exact h1
    · intro hl b hab w hw
      have h2 : AR D a (b.put (some d) (a.tmps.getD d undef)) := by
        have h3 := hab.put (dst := some d) (okv.refl D (some d) (a.tmps.getD d undef))
        rwa [put_back] at h3
      have h1 := hl _ h2 w hw
      rw [execOp_put (ops := ops) o hs b (some d) _ h] at h1
      exact h1

def Yl (P : Program) (ops : Array Oper) (C : World → Prop) (D : Nat → Bool) (o : Oper) (v : Value) (a : Act) : Prop :=
  (Region.wanted o (yielded ops a.tmps) = true ∧ loose P C D o a v) ∨ (Region.wanted o (yielded ops a.tmps) = false ∧ v = undef)

theorem at1_of_Yl {i : Nat} {o : Oper} {v : Value} {a : Act} (hi : ops[i]? = some o) (hy : Yl P ops C D o v a) {K : Act → Prop} (h : K (a.put o.dst v)) : at1 P ops C D i K a := by
  unfold at1
  rw [hi]
  simp only
  rcases hy with ⟨hw, hv⟩ | ⟨hw, rfl⟩
  · rw [if_pos hw]; exact ⟨v, hv, h⟩
  · rw [if_neg (by rw [hw]; decide)]; exact h

theorem Yl_of_at1 {i : Nat} {o : Oper} {a : Act} {K : Act → Prop} (hi : ops[i]? = some o) (h : at1 P ops C D i K a) : ∃ v, Yl P ops C D o v a ∧ K (a.put o.dst v) := by
  unfold at1 at h
  rw [hi] at h
  simp only at h
  by_cases hw : Region.wanted o (yielded ops a.tmps) = true
  · rw [if_pos hw] at h
    obtain ⟨v, h1, h2⟩ := h
    exact ⟨v, .inl ⟨hw, h1⟩, h2⟩
  · rw [if_neg hw] at h
    exact ⟨undef, .inr ⟨by simpa using hw, rfl⟩, h⟩

theorem at1_swap {j : Nat} {oi oj : Oper} {v : Value} (hj : ops[j]? = some oj) (hap : oi.apart ops oj = true)
    (hsi : ∀ cs b, oi.op ≠ .select cs b) (hsj : ∀ cs b, oj.op ≠ .select cs b) {K : Act → Prop} {a : Act}
    (hy : Yl P ops C D oi v a) (h : at1 P ops C D j K (a.put oi.dst v)) : at1 P ops C D j (fun b => Yl P ops C D oi v b ∧ K (b.put oi.dst v)) a := by
  obtain ⟨h1, h2, h3⟩ := Oper.apart_spec hap
  have keep : ∀ u, Yl P ops C D oi v (a.put oj.dst u) := fun u => by
    unfold Yl at hy ⊢
    rw [wanted_put oi a oj.dst u h3, loose_put (ops := ops) hsi h3]
    exact hy
  unfold at1 at *
  rw [hj] at h ⊢
  simp only at h ⊢
  rw [wanted_put oj a oi.dst v h1] at h
  by_cases hw : Region.wanted oj (yielded ops a.tmps) = true
  · rw [if_pos hw] at h ⊢
    obtain ⟨u, hu, hn⟩ := h
    exact ⟨u, (loose_put (ops := ops) hsj h1).1 hu, keep u, by rw [← Act.put_comm a v u h2]; exact hn⟩
  · rw [if_neg hw] at h ⊢
    exact ⟨keep _, by rw [← Act.put_comm a v undef h2]; exact h⟩

theorem anyL_first {Q : Act → Prop} {i : Nat} {oi : Oper} {v : Value} (hi : ops[i]? = some oi) (hsel : ∀ (j : Nat) (o : Oper) cs b, ops[j]? = some o → o.op ≠ .select cs b) :
    ∀ (n : Nat) (listed : Array Bool) (a : Act),
      (∀ j oj, ops[j]? = some oj → j ≠ i → listed.getD j true = false → (∀ e ∈ oj.after, Region.binds md e = true → e.on ≠ i) → oi.apart ops oj = true) →
      i ∈ Region.ready md ops listed → Yl P ops C D oi v a →
      anyL P md ops C D Q n (listed.setIfInBounds i true) (a.put oi.dst v) → anyL P md ops C D Q (n + 1) listed a := by
  intro n
  induction n with
  | zero =>
    intro listed a _ hr hy H
    refine ⟨fun h => (by rw [h] at hr; cases hr), fun j hj => ?_⟩
    by_cases e : j = i
    · subst e; exact at1_of_Yl hi hy H
    · have h0 := ready_mono hj e
      rw [H.1] at h0
      cases h0
  | succ n ih =>
    intro listed a hfree hr hy H
    refine ⟨fun h => (by rw [h] at hr; cases hr), fun j hj => ?_⟩
    by_cases e : j = i
    · subst e; exact at1_of_Yl hi hy H
    · obtain ⟨hjun, oj, hoj, hall⟩ := mem_ready.1 hj
      have hnot : ∀ x ∈ oj.after, Region.binds md x = true → x.on ≠ i := fun x hx hb heq => by
        have g1 := hall x hx hb
        have g0 := (mem_ready.1 hr).1
        rw [heq] at g1
        rcases Nat.lt_or_ge i listed.size with hl | hl
        · simp [hl] at g0 g1; rw [g0] at g1; cases g1
        · simp [Array.getElem?_eq_none hl] at g1
      have hsw := at1_swap hoj (hfree j oj hoj e hjun hnot) (fun cs b => hsel i oi cs b hi) (fun cs b => hsel j oj cs b hoj) hy (H.2 j (ready_mono hj e))
      refine at1_mono (fun b hb => ih (listed.setIfInBounds j true) b (fun k ok hk hki hun hno => ?_) (ready_mono hr (Ne.symm e)) hb.1 ?_) hsw
      · refine hfree k ok hk hki ?_ hno
        by_cases hjk : j = k
        · subst hjk; exact hjun
        · rw [getD_set_ne true hjk] at hun; exact hun
      · rw [Array.setIfInBounds_comm _ _ e]
        exact hb.2

theorem anyL_text {Q : Act → Prop} (hs : Region.noSelect ops = true) : ∀ (l : List Oper) (k : Nat) (listed : Array Bool) (a : Act), (∀ j, l[j]? = ops[k + j]?) →
    Region.lexFrom md ops l.length k listed = true → wpL P ops C D Q l a → anyL P md ops C D Q l.length listed a
  | [], _, _, _, _, hB, h => ⟨by simpa [Region.lexFrom] using hB, h⟩
  | o :: l, k, listed, a, hl, hB, h => by
    have h0 : ops[k]? = some o := by simpa using (hl 0).symm
    simp only [List.length_cons, Region.lexFrom, Bool.and_eq_true] at hB
    obtain ⟨⟨hr, hf⟩, hB2⟩ := hB
    have hst : at1 P ops C D k (wpL P ops C D Q l) a := by unfold at1; rw [h0]; exact h
    obtain ⟨v, hy, hK⟩ := Yl_of_at1 h0 hst
    exact anyL_first h0 (Region.noSelect_spec hs) l.length listed a (Region.free_spec h0 hf) (by simpa using hr) hy
      (anyL_text hs l (k + 1) _ _ (fun j => by have := hl (j + 1); simpa [Nat.add_assoc, Nat.add_comm 1 j] using this) hB2 hK)

end

/-- **One walk in the order of the text serves every order.** D: the slots of floats that the statement computes. -/
theorem wp_loose {P : Program} {id : Nat} {Q : Exit → Act → World → Prop} {a : Act} {w : World} {l : List Oper} (ds : List Nat) (hm : P.follows .mixedOrders = true) (hB : Region.lexB .any l.toArray = true)
    (h : wpL P l.toArray (fun v => ∃ n, v = w.drewN n) (fun i => ds.contains i) (fun a2 => ∀ b, AR (fun i => ds.contains i) a2 b → ∀ n, Q .normal b (w.drewN n)) l a) : (Code.region id l.toArray true).wp P Q a w := by
  simp only [Region.lexB, Bool.and_eq_true] at hB
  refine wp_region_any hm (wpAny_of_anyL (C := fun v => ∃ n, v = w.drewN n) (D := fun i => ds.contains i) (Q := fun a2 => ∀ b, AR (fun i => ds.contains i) a2 b → ∀ n, Q .normal b (w.drewN n))
    (fun a b w2 hw hab hq => by obtain ⟨n, rfl⟩ := hw; exact hq b hab n) _ _ a a _ ⟨1, rfl⟩ (AR.refl _ _) ?_)
  have := anyL_text (P := P) (C := fun v => ∃ n, v = w.drewN n) (D := fun i => ds.contains i) (md := .any) hB.1 l 0 (Array.replicate l.length false) a (by simp) (by simpa using hB.2) h
  simpa using this
end Lo
end Go.Proofs.Ytflpackchlpedaa
