/- The steps of a walk by Lk. -/
import Derived.Test.YtflpackchlpedaaLk
import Derived.Deep.MidRow
set_option linter.unusedVariables false
set_option linter.unusedSimpArgs false
namespace Go.Proofs.Ytflpackchlpedaa
namespace Lk
open Fl Ieee
def pureOp (o : Oper) : Bool :=
  match o.op with
  | .move _ | .assign _ | .pick .. | .build .. | .load .. | .binOp .. | .unOp .. | .convert .. | .field .. | .index .. | .extract .. | .fieldAddr .. | .indexAddr .. | .makeInterface .. | .makeFunc .. | .slice .. | .sliceToArrayPointer .. => true
  | _ => false
theorem v_no_enter {P : Program} {s : Sem Value} {w w' : World} {f : FuncId} {args : Array Value} (h : (do pure (Next.value (← s)) : Sem Next).run P w = .ok (.enter f args) w') : False := by
  simp only [Sem.run_bind] at h
  cases hs : s.run P w with
  | ok a w2 => rw [hs] at h; simp [Result.andThen] at h
  | halt x w2 => rw [hs] at h; simp [Result.andThen] at h
theorem pure_no_enter {P : Program} {ρ : Operand → Value} {o : Oper} (h : pureOp o = true) {w w' : World} {f : FuncId} {args : Array Value} (e : (execOp ρ o).run P w = .ok (.enter f args) w') : False := by
  unfold pureOp at h
  unfold execOp at e
  cases ho : o.op <;> rw [ho] at h e <;> simp only at h e <;> first | (cases h; done) | exact v_no_enter e | (simp [Sem.run_pure] at e; done) | (simp only [Sem.run_bind, Sem.run_pure] at e; revert e; generalize Sem.run P _ w = r; intro e; cases r <;> simp [Result.andThen] at e; done) | skip
def avoidK (A : Fa) (o : Oper) : Bool := (o.op.operands.toList.all fun x => match x with | .tmp t => (A.κ t).isNone | _ => true) && (match o.op with | .select .. => false | _ => true)
theorem looks_op {ops : Array Oper} {o : Oper} {t : Nat} (h : (.tmp t : Operand) ∈ o.op.operands) : t ∈ o.looksAt ops := List.mem_append_left _ (List.mem_filterMap.2 ⟨.tmp t, by simpa using h, rfl⟩)
theorem eval_avoidK {ops : Array Oper} {N : Nat} {A : Fa} {b : Act} {fp : Nat → Fp} {w : World} {o : Oper} (hR : ∀ i ∈ o.looksAt ops, R N A i b fp w) (ho : avoidK A o = true) : execOp b.eval o = execOp A.a.eval o := by
  unfold avoidK at ho
  rw [Bool.and_eq_true] at ho
  refine execOp_congr o (fun cs bb e => by rw [e] at ho; simp at ho) fun x hx => ?_
  have h1 := List.all_eq_true.1 ho.1 x (by simpa using hx)
  cases x with
  | tmp t =>
    simp only at h1
    have hk : A.κ t = none := by simpa using h1
    exact (hR t (looks_op hx)).none_ hk
  | const v => rfl
  | global g => rfl
  | func f => rfl
/-- arguments, those that are known by their properties alone as they are -/
theorem args_eq {ops : Array Oper} {N : Nat} {A : Fa} {b : Act} {fp : Nat → Fp} {w : World} {o : Oper} (hR : ∀ i ∈ o.looksAt ops, R N A i b fp w) {xs : List Operand} (hx : ∀ x ∈ xs, x ∈ o.op.operands) :
    xs.map b.eval = xs.map fun x => match x with | .tmp t => (match A.κ t with | some _ => b.tmps.getD t undef | none => A.a.tmps.getD t undef) | y => A.a.eval y := by
  refine List.map_congr_left fun x hxx => ?_
  cases x with
  | tmp t =>
    simp only
    cases hk : A.κ t with
    | none => exact (hR t (looks_op (hx _ hxx))).none_ hk
    | some K => rfl
  | const v => rfl
  | global g => rfl
  | func f => rfl
section
variable {P : Program} {ops : Array Oper} {w0 : World} {Q : Fa → Prop} {A : Fa} {o : Oper} {rest : List Oper}
theorem wpK_nil (h : Q A) : wpK P ops w0 Q [] A := h
theorem wpK_of_loose {e : Ef} (hg : o.guard = none) (h : loose P ops w0 o A e) (hK : wpK P ops w0 Q rest (A.put o.dst e)) : wpK P ops w0 Q (o :: rest) A := by
  unfold wpK
  rw [if_pos (Lo.wanted_none hg _)]
  exact ⟨e, h, hK⟩
/-- an operation that looks at known slots alone, and leaves the world -/
theorem wpK_quiet (hg : o.guard = none) (ho : avoidK A o = true) (hp : pureOp o = true) (h : ∀ K : Act → Prop, (∀ a, wpK P ops w0 Q rest ⟨a, k1 A o.dst (.v undef)⟩ → K a) → o.quiet P A.a (fun v => w0.Since w0.heap.size v) K) : wpK P ops w0 Q (o :: rest) A := by
  obtain ⟨v, h1, h2⟩ := h (fun a => wpK P ops w0 Q rest ⟨a, k1 A o.dst (.v undef)⟩) (fun _ h => h)
  refine wpK_of_loose (e := ev v) hg ⟨fun q hq => (by cases hq), fun b fp w hw hN _ hR => ?_⟩ h2
  rw [eval_avoidK hR ho]
  have h3 := h1 w hw
  unfold Oper.quietAt at h3
  generalize hr : (execOp A.a.eval o).run P w = r at h3
  cases r with
  | ok n w2 =>
    cases n <;> simp only [Oper.quietUpon] at h3 <;> simp only [upon]
    case value u => obtain ⟨rfl, rfl⟩ := h3; exact ⟨rfl, World.Since.refl _ _⟩
    case skip => obtain ⟨rfl, rfl⟩ := h3; exact ⟨rfl, World.Since.refl _ _⟩
    case enter f args => exact absurd hr (fun h => pure_no_enter hp h)
  | halt x w2 => simp only [Oper.quietUpon] at h3
/-- an operation whose run is told -/
theorem wpK_told (hg : o.guard = none) (ho : avoidK A o = true) (v : Value) (hrun : ∀ w, w0.Since w0.heap.size w → w0.heap.size ≤ w.heap.size → ∃ w', (execOp A.a.eval o).run P w = .ok (.value v) w' ∧ w.Since w.heap.size w') (hK : wpK P ops w0 Q rest (A.put o.dst (ev v))) : wpK P ops w0 Q (o :: rest) A := by
  refine wpK_of_loose (e := ev v) hg ⟨fun q hq => (by cases hq), fun b fp w hw hN _ hR => ?_⟩ hK
  rw [eval_avoidK hR ho]
  obtain ⟨w', e, hs⟩ := hrun w hw hN
  rw [e]
  exact ⟨rfl, hs⟩
/-- a slot that is known by its properties alone, moved -/
theorem wpK_copy (hg : o.guard = none) (s : Nat) (hop : o.op = .move (.tmp s) ∨ o.op = .assign (.tmp s)) (K : Kd) (hk : A.κ s = some K) (hb : K.bx = false) (hK : wpK P ops w0 Q rest (A.put o.dst ⟨.k K, none⟩)) : wpK P ops w0 Q (o :: rest) A := by
  refine wpK_of_loose (e := ⟨.k K, none⟩) hg ⟨fun q hq => (by cases hq), fun b fp w hw hN _ hR => ?_⟩ hK
  have hm : s ∈ o.looksAt ops := looks_op (by rcases hop with h | h <;> rw [h] <;> simp [Op.operands])
  have h := (hR s hm).some_ hk
  have e : (execOp b.eval o).run P w = .ok (.value (b.tmps.getD s undef)) w := by
    rcases hop with h | h
    · exact BigFrame.run_move (.tmp s) h w
    · exact BigFrame.run_assign (.tmp s) h w
  rw [e]
  exact ⟨⟨h.2.1, fp s, h.2.2.1, (fun h2 => by rw [hb] at h2; cases h2), fun g hg => ⟨h.2.2.2.1 g hg, .inr (.inr ⟨s, K, hm, hk, hb, hg⟩)⟩⟩, World.Since.refl _ _⟩
theorem run_extract {ρ : Operand → Value} {s ix : Nat} (hop : o.op = .extract (.tmp s) ix) {vs : Array Value} {z : Value} (hv : ρ (.tmp s) = .tuple vs) (hz : vs[ix]? = some z) (w : World) : (execOp ρ o).run P w = .ok (.value z) w := by
  simp [execOp, hop, hv, Instr.extract, hz, Result.andThen]
theorem wpK_extract (hg : o.guard = none) (s ix : Nat) (hop : o.op = .extract (.tmp s) ix) (K K2 : Kd) (hk : A.κ s = some K) (hb : K.bx = false) (hb2 : K2.bx = false) (hex : ∀ u S w, K.p u S w → ∃ vs z, u = .tuple vs ∧ vs[ix]? = some z ∧ nb z ∧ K2.p z S w)
    (hK : wpK P ops w0 Q rest (A.put o.dst ⟨.k K2, none⟩)) : wpK P ops w0 Q (o :: rest) A := by
  refine wpK_of_loose (e := ⟨.k K2, none⟩) hg ⟨fun q hq => (by cases hq), fun b fp w hw hN _ hR => ?_⟩ hK
  have hm : s ∈ o.looksAt ops := looks_op (by rw [hop]; simp [Op.operands])
  have h := (hR s hm).some_ hk
  obtain ⟨vs, z, e1, e2, hz, h2⟩ := hex _ _ _ h.2.2.1
  rw [run_extract (P := P) (ρ := b.eval) hop e1 e2 w]
  exact ⟨⟨hz, fp s, h2, (fun h2 => by rw [hb2] at h2; cases h2), fun g hg => ⟨h.2.2.2.1 g hg, .inr (.inr ⟨s, K, hm, hk, hb, hg⟩)⟩⟩, World.Since.refl _ _⟩
theorem wpK_extractV (hg : o.guard = none) (s ix : Nat) (hop : o.op = .extract (.tmp s) ix) (K : Kd) (hk : A.κ s = some K) (z : Value) (hex : ∀ u S w, K.p u S w → ∃ vs, u = .tuple vs ∧ vs[ix]? = some z)
    (hK : wpK P ops w0 Q rest (A.put o.dst (ev z))) : wpK P ops w0 Q (o :: rest) A := by
  refine wpK_of_loose (e := ev z) hg ⟨fun q hq => (by cases hq), fun b fp w hw hN _ hR => ?_⟩ hK
  have hm : s ∈ o.looksAt ops := looks_op (by rw [hop]; simp [Op.operands])
  have h := (hR s hm).some_ hk
  obtain ⟨vs, e1, e2⟩ := hex _ _ _ h.2.2.1
  rw [run_extract (P := P) (ρ := b.eval) hop e1 e2 w]
  exact ⟨rfl, World.Since.refl _ _⟩
theorem run_enter {ρ : Operand → Value} {f : FuncId} {xs : List Operand} {tys : Array TypeId} (hop : o.op = Op.call ⟨.value (.func f), xs.toArray, tys⟩) (hf : ρ (.func f) = .func (.func f) #[] #[]) (henter : ∀ args w2, (callFunc f args).run P w2 = .ok (.enter f args) w2) (w : World) : (execOp ρ o).run P w = .ok (.enter f (xs.map ρ).toArray) w := by
  simp [execOp, hop, resolve, hf, invoke, Deferred.ofValue, henter, Result.andThen]
/-- a call whose result is known by its properties -/
theorem wpK_call (hg : o.guard = none) (f : FuncId) (xs : List Operand) (tys : Array TypeId) (hop : o.op = Op.call ⟨.value (.func f), xs.toArray, tys⟩) (henter : ∀ args w2, (callFunc f args).run P w2 = .ok (.enter f args) w2) (K : Kd) (hb : K.bx = false)
    (hc : ∀ b fp w, w0.Since w0.heap.size w → w0.heap.size ≤ w.heap.size → (∀ i ∈ o.looksAt ops, R w0.heap.size A i b fp w) → Calls P f (xs.map b.eval).toArray w fun e2 w2 => ∃ u S, e2 = .returned u ∧ nb u ∧ K.p u S w2 ∧ w.Since w.heap.size w2 ∧ ∀ g, S g → w.heap.size ≤ g ∧ g < w2.heap.size)
    (hK : wpK P ops w0 Q rest (A.put o.dst ⟨.k K, none⟩)) : wpK P ops w0 Q (o :: rest) A := by
  refine wpK_of_loose (e := ⟨.k K, none⟩) hg ⟨fun q hq => (by cases hq), fun b fp w hw hN _ hR => ?_⟩ hK
  rw [run_enter (P := P) hop rfl henter w]
  exact (hc b fp w hw hN hR).mono fun e2 w2 ⟨u, S, he, h1, h2, h3, h4⟩ => ⟨u, he, ⟨h1, S, h2, (fun h => by rw [hb] at h; cases h), fun g hg => ⟨(h4 g hg).2, .inl (h4 g hg).1⟩⟩, h3⟩
/-- a call with one known result -/
theorem wpK_callV (hg : o.guard = none) (f : FuncId) (xs : List Operand) (tys : Array TypeId) (hop : o.op = Op.call ⟨.value (.func f), xs.toArray, tys⟩) (henter : ∀ args w2, (callFunc f args).run P w2 = .ok (.enter f args) w2) (z : Value)
    (hc : ∀ b fp w, w0.Since w0.heap.size w → w0.heap.size ≤ w.heap.size → (∀ i ∈ o.looksAt ops, R w0.heap.size A i b fp w) → Calls P f (xs.map b.eval).toArray w fun e2 w2 => e2 = .returned z ∧ w.Since w.heap.size w2)
    (hK : wpK P ops w0 Q rest (A.put o.dst (ev z))) : wpK P ops w0 Q (o :: rest) A := by
  refine wpK_of_loose (e := ev z) hg ⟨fun q hq => (by cases hq), fun b fp w hw hN _ hR => ?_⟩ hK
  rw [run_enter (P := P) hop rfl henter w]
  exact (hc b fp w hw hN hR).mono fun e2 w2 ⟨he, h3⟩ => ⟨z, he, rfl, h3⟩
/-- a box of the statement's own -/
def bxP (T : TypeId) (Pc : List Value → Prop) (u : Value) (S : Fp) (w : World) : Prop := ∃ (g : Nat) (cs : List Value), u = .pointer (some ⟨g, 0, none⟩) ∧ (∀ k, S k ↔ k = g) ∧ w.heap[g]? = some (.cells cs.toArray T (0, 0)) ∧ Pc cs
def bxK (T : TypeId) (Pc : List Value → Prop) : Kd where
  p := bxP T Pc
  stable := fun u S w w' h hp => by
    obtain ⟨g, cs, e, hS, hb, hc⟩ := hp
    exact ⟨g, cs, e, hS, (h g ((hS g).2 rfl)).trans hb, hc⟩
  bx := true
theorem wpK_alloc (hg : o.guard = none) (elem : TypeId) (hop : o.op = .alloc elem) (T : TypeId) (cs : List Value) (hrun : ∀ w : World, (Instr.alloc elem true (.tuple #[])).run P w = .ok (.pointer (some ⟨w.heap.size, 0, none⟩)) (w.alloc (.cells cs.toArray T)))
    (hK : wpK P ops w0 Q rest (A.put o.dst ⟨.k (bxK T (· = cs)), none⟩)) : wpK P ops w0 Q (o :: rest) A := by
  refine wpK_of_loose (e := ⟨.k (bxK T (· = cs)), none⟩) hg ⟨fun q hq => (by cases hq), fun b fp w hw hN _ hR => ?_⟩ hK
  have e : (execOp b.eval o).run P w = .ok (.value (.pointer (some ⟨w.heap.size, 0, none⟩))) (w.alloc (.cells cs.toArray T)) := by
    simp [execOp, hop, hrun, Result.andThen]
  rw [e]
  refine ⟨⟨trivial, fun k => k = w.heap.size, ⟨_, cs, rfl, fun k => Iff.rfl, Go.Deep.blk_alloc_new _ _, rfl⟩, fun _ g hg => by rw [hg]; exact Nat.le_refl _, fun g hg => ?_⟩, (World.Since.refl _ _).alloc (Nat.le_refl _) _⟩
  have hg' : g = w.heap.size := hg
  subst hg'
  exact ⟨by simp, .inl (Nat.le_refl _)⟩
theorem setCells_size (g : Nat) : ∀ (vs : List Value) (o : Nat) (w : World), (w.setCells g o vs).heap.size = w.heap.size
  | [], _, _ => rfl
  | v :: r, o, w => by rw [World.setCells, setCells_size g r]; exact Go.Deep.nblk_setCell _ _ _
theorem setCells_other (g : Nat) : ∀ (vs : List Value) (o : Nat) (w : World) (k : Nat), k ≠ g → (w.setCells g o vs).heap[k]? = w.heap[k]?
  | [], _, _, _, _ => rfl
  | v :: r, o, w, k, hk => by rw [World.setCells, setCells_other g r _ _ k hk]; exact Go.Deep.blk_setCell_other _ _ _ _ hk
theorem setCells_since {N g : Nat} (hg : N ≤ g) : ∀ (vs : List Value) (o : Nat) (w : World), w.Since N (w.setCells g o vs)
  | [], _, _ => World.Since.refl _ _
  | v :: r, o, w => ((World.Since.refl _ _).setCell hg _).trans (setCells_since hg r _ _)
theorem setCells_blk {T : TypeId} {g : Nat} : ∀ (vs : List Value) (o : Nat) (w : World) (cs : Array Value), w.heap[g]? = some (.cells cs T (0, 0)) → o + vs.length ≤ cs.size →
    ∃ cs', (w.setCells g o vs).heap[g]? = some (.cells cs' T (0, 0)) ∧ cs'.size = cs.size ∧ (∀ j, j < o → cs'[j]? = cs[j]?) ∧ ∀ j, j < vs.length → cs'[o + j]? = vs[j]?
  | [], _, _, cs, h, _ => ⟨cs, h, rfl, fun _ _ => rfl, fun j hj => by simp at hj⟩
  | v :: r, o, w, cs, h, hl => by
    have h1 : (w.setCell ⟨g, o, none⟩ v).heap[g]? = some (.cells (cs.setIfInBounds o v) T (0, 0)) := by simp [World.setCell, Array.getElem?_modify, h]
    obtain ⟨cs', e1, e2, e3, e4⟩ := setCells_blk r (o + 1) _ _ h1 (by simp only [List.length_cons] at hl; simp; omega)
    refine ⟨cs', e1, by rw [e2]; simp, fun j hj => ?_, fun j hj => ?_⟩
    · rw [e3 j (by omega), Array.getElem?_setIfInBounds_ne (by omega)]
    · cases j with
      | zero =>
        rw [Nat.add_zero, e3 o (by omega)]
        simp only [List.length_cons] at hl
        rw [Array.getElem?_setIfInBounds_self_of_lt (by omega)]
        rfl
      | succ j =>
        have := e4 j (by simp only [List.length_cons] at hj; omega)
        rw [show o + (j + 1) = o + 1 + j by omega, this]
        rfl
theorem setCells_whole {T : TypeId} {g : Nat} {vs cs : List Value} {w : World} (h : w.heap[g]? = some (.cells cs.toArray T (0, 0))) (hl : vs.length = cs.length) : (w.setCells g 0 vs).heap[g]? = some (.cells vs.toArray T (0, 0)) := by
  obtain ⟨cs', e1, e2, e3, e4⟩ := setCells_blk vs 0 w cs.toArray h (by simp; omega)
  rw [e1]
  congr 2
  apply Array.ext_getElem?
  intro i
  by_cases hi : i < vs.length
  · have := e4 i hi
    rw [Nat.zero_add] at this
    rw [this]; simp
  · rw [Array.getElem?_eq_none (by rw [e2]; simp; omega), Array.getElem?_eq_none (by simp; omega)]
theorem wpK_store (hg : o.guard = none) (ty : TypeId) (p : Nat) (y : Operand) (hop : o.op = .store ty (.tmp p) y) (hd : o.dst = none) (T : TypeId) (Pc Pc' : List Value → Prop) (hk : A.κ p = some (bxK T Pc)) (n : Nat) (hn : ∀ cs, Pc cs → cs.length = n) (hi : (P.info? ty).map (·.size) = some n)
    (hy : ∀ b fp w, w0.Since w0.heap.size w → w0.heap.size ≤ w.heap.size → (∀ i ∈ o.looksAt ops, R w0.heap.size A i b fp w) → ∃ cs : List Value, b.eval y = .agg cs.toArray ∧ cs.length = n ∧ Pc' cs ∧ cs.toArray.all (·.oneCell') = true)
    (hK : wpK P ops w0 Q rest (A.put o.dst ⟨.v undef, some (p, bxK T Pc')⟩)) : wpK P ops w0 Q (o :: rest) A := by
  refine wpK_of_loose (e := ⟨.v undef, some (p, bxK T Pc')⟩) hg ⟨fun q hq => ?_, fun b fp w hw hN _ hR => ?_⟩ hK
  · injection hq with hq
    subst hq
    exact ⟨hd, by unfold stOf; rw [hop]⟩
  · have hm : p ∈ o.looksAt ops := looks_op (by rw [hop]; simp [Op.operands])
    have h := (hR p hm).some_ hk
    obtain ⟨g, cs, e1, hS, hb, hc⟩ := h.2.2.1
    obtain ⟨cs', e2, hl, hc', h1⟩ := hy b fp w hw hN hR
    have hl2 : cs'.length = cs.length := by rw [hl, hn cs hc]
    have ht : w.there g 0 cs'.toArray.size := fun j hj => by
      have hj2 : j < cs.length := by rw [← hl2]; simpa using hj
      rw [Nat.zero_add]
      exact ⟨by simp [World.cell?, hb, hj2], by simp [World.frozen?, hb]⟩
    have er := run_storeAt_mid (P := P) w g 0 ty cs'.toArray ht (by rw [hi]; simp [hl]) h1
    have ex : (execOp b.eval o).run P w = .ok .skip (w.setCells g 0 cs') := by
      have e1' : b.eval (.tmp p) = .pointer (some ⟨g, 0, none⟩) := e1
      simp [execOp, hop, e1', e2, er, Result.andThen]
    have hNg := h.2.2.2.2 rfl g ((hS g).2 rfl)
    rw [ex]
    refine ⟨rfl, setCells_since hNg _ _ _, setCells_size _ _ _ _, ⟨_, hk, rfl⟩, rfl, ⟨g, cs', e1, hS, setCells_whole hb hl2, hc'⟩, fun k hk => setCells_other g _ _ _ k fun e => hk ((hS k).2 e)⟩
end
/-! ### the steps, the frame and what is known apart -/
section
variable {P : Program} {ops : Array Oper} {w0 : World} {Q : Fa → Prop} {a : Act} {κ : Nat → Option Kd} {o : Oper} {rest : List Oper} {d : Nat}
theorem put_some {x : Va} (hs : d < a.tmps.size) : (Fa.mk a κ).put (some d) ⟨x, none⟩ = ⟨a.put (some d) x.val, upd κ d x.kd⟩ := by
  simp [Fa.put, k2, k1, hs]
theorem upd_none (hk : κ d = none) : upd κ d none = κ := by
  funext i
  unfold upd
  by_cases e : i = d
  · subst e; rw [if_pos rfl, hk]
  · rw [if_neg e]
theorem k1_known (hk : κ d = none) (x : Value) : k1 ⟨a, κ⟩ (some d) (.v x) = κ := by
  simp only [k1, Va.kd]
  split
  · exact upd_none hk
  · rfl
theorem put_known {u : Value} (hk : κ d = none) : (Fa.mk a κ).put (some d) (ev u) = ⟨a.put (some d) u, κ⟩ := by
  simp [Fa.put, k2, k1_known hk, ev, Va.val]
theorem sQuiet (hg : o.guard = none) (hd : o.dst = some d) (hk : κ d = none) (ho : avoidK ⟨a, κ⟩ o = true) (hp : pureOp o = true) (h : ∀ K : Act → Prop, (∀ a, wpK P ops w0 Q rest ⟨a, κ⟩ → K a) → o.quiet P a (fun v => w0.Since w0.heap.size v) K) : wpK P ops w0 Q (o :: rest) ⟨a, κ⟩ :=
  wpK_quiet hg ho hp fun K hK => h K fun a' ha => hK a' (by rw [hd, k1_known hk]; exact ha)
theorem sMove (hg : o.guard = none) (hd : o.dst = some d) (hk : κ d = none) (ho : avoidK ⟨a, κ⟩ o = true) (x : Operand) (hop : o.op = .move x ∨ o.op = .assign x) (hK : wpK P ops w0 Q rest ⟨a.put (some d) (a.eval x), κ⟩) : wpK P ops w0 Q (o :: rest) ⟨a, κ⟩ :=
  wpK_told hg ho (a.eval x) (fun w _ _ => ⟨w, by
    rcases hop with h | h
    · exact BigFrame.run_move x h w
    · exact BigFrame.run_assign x h w, World.Since.refl _ _⟩) (by rw [hd, put_known hk]; exact hK)
theorem sTold (hg : o.guard = none) (hd : o.dst = some d) (hk : κ d = none) (ho : avoidK ⟨a, κ⟩ o = true) (v : Value) (hrun : ∀ w, w0.Since w0.heap.size w → w0.heap.size ≤ w.heap.size → ∃ w', (execOp a.eval o).run P w = .ok (.value v) w' ∧ w.Since w.heap.size w') (hK : wpK P ops w0 Q rest ⟨a.put (some d) v, κ⟩) : wpK P ops w0 Q (o :: rest) ⟨a, κ⟩ :=
  wpK_told hg ho v hrun (by rw [hd, put_known hk]; exact hK)
/-- a struct is loaded from the law's box -/
theorem sRow (hg : o.guard = none) (hd : o.dst = some d) (hk : κ d = none) (ho : avoidK ⟨a, κ⟩ o = true) (ty : TypeId) (x : Operand) (hop : o.op = .load ty x) (b off : Nat) (hx : a.eval x = .pointer (some ⟨b, off, none⟩)) (cs : List Value) (ds : TypeDesc)
    (hu : P.underlying ty = some ds) (hr : ds.isRow = true) (hi : (P.info? ty).map (·.size) = some cs.length) (hS : ∀ v, w0.Since w0.heap.size v → v.rangeAt b off cs)
    (hK : wpK P ops w0 Q rest ⟨a.put (some d) (.agg cs.toArray), κ⟩) : wpK P ops w0 Q (o :: rest) ⟨a, κ⟩ :=
  sTold hg hd hk ho _ (fun w hw _ => ⟨w, by
    unfold execOp
    simp only [hop, hx, Instr.loadAt, Instr.sureAddr, Sem.run_bind, Sem.run_pure, Result.andThen_ok, Go.run_loadVar_mid w b off ty cs ds (hS w hw) hu hr hi], World.Since.refl _ _⟩) hK
theorem sCopy (hg : o.guard = none) (hd : o.dst = some d) (hs : d < a.tmps.size) (s : Nat) (hop : o.op = .move (.tmp s) ∨ o.op = .assign (.tmp s)) (K : Kd) (hk : κ s = some K) (hb : K.bx = false) (hK : wpK P ops w0 Q rest ⟨a.put (some d) undef, upd κ d (some K)⟩) : wpK P ops w0 Q (o :: rest) ⟨a, κ⟩ :=
  wpK_copy hg s hop K hk hb (by rw [hd, put_some hs]; exact hK)
theorem sExtract (hg : o.guard = none) (hd : o.dst = some d) (hs : d < a.tmps.size) (s ix : Nat) (hop : o.op = .extract (.tmp s) ix) (K K2 : Kd) (hk : κ s = some K) (hb : K.bx = false) (hb2 : K2.bx = false) (hex : ∀ u S w, K.p u S w → ∃ vs z, u = .tuple vs ∧ vs[ix]? = some z ∧ nb z ∧ K2.p z S w)
    (hK : wpK P ops w0 Q rest ⟨a.put (some d) undef, upd κ d (some K2)⟩) : wpK P ops w0 Q (o :: rest) ⟨a, κ⟩ :=
  wpK_extract hg s ix hop K K2 hk hb hb2 hex (by rw [hd, put_some hs]; exact hK)
theorem sExtractV (hg : o.guard = none) (hd : o.dst = some d) (hkd : κ d = none) (s ix : Nat) (hop : o.op = .extract (.tmp s) ix) (K : Kd) (hk : κ s = some K) (z : Value) (hex : ∀ u S w, K.p u S w → ∃ vs, u = .tuple vs ∧ vs[ix]? = some z)
    (hK : wpK P ops w0 Q rest ⟨a.put (some d) z, κ⟩) : wpK P ops w0 Q (o :: rest) ⟨a, κ⟩ :=
  wpK_extractV hg s ix hop K hk z hex (by rw [hd, put_known hkd]; exact hK)
theorem sCall (hg : o.guard = none) (hd : o.dst = some d) (hs : d < a.tmps.size) (f : FuncId) (xs : List Operand) (tys : Array TypeId) (hop : o.op = Op.call ⟨.value (.func f), xs.toArray, tys⟩) (henter : ∀ args w2, (callFunc f args).run P w2 = .ok (.enter f args) w2) (K : Kd) (hb : K.bx = false)
    (hc : ∀ b fp w, w0.Since w0.heap.size w → w0.heap.size ≤ w.heap.size → (∀ i ∈ o.looksAt ops, R w0.heap.size ⟨a, κ⟩ i b fp w) → Calls P f (xs.map b.eval).toArray w fun e2 w2 => ∃ u S, e2 = .returned u ∧ nb u ∧ K.p u S w2 ∧ w.Since w.heap.size w2 ∧ ∀ g, S g → w.heap.size ≤ g ∧ g < w2.heap.size)
    (hK : wpK P ops w0 Q rest ⟨a.put (some d) undef, upd κ d (some K)⟩) : wpK P ops w0 Q (o :: rest) ⟨a, κ⟩ :=
  wpK_call hg f xs tys hop henter K hb hc (by rw [hd, put_some hs]; exact hK)
theorem mem_call {f : Operand} {xs : List Operand} {tys : Array TypeId} (hop : o.op = Op.call ⟨.value f, xs.toArray, tys⟩) : ∀ x ∈ xs, x ∈ o.op.operands := fun x hx => by
  rw [hop]
  simp [Op.operands, Call.operands, hx]
/-- a call of known arguments -/
theorem sCallK (hg : o.guard = none) (hd : o.dst = some d) (hs : d < a.tmps.size) (f : FuncId) (xs : List Operand) (tys : Array TypeId) (hop : o.op = Op.call ⟨.value (.func f), xs.toArray, tys⟩) (henter : ∀ args w2, (callFunc f args).run P w2 = .ok (.enter f args) w2) (ho : avoidK ⟨a, κ⟩ o = true) (vs : List Value) (hvs : xs.map a.eval = vs) (K : Kd) (hb : K.bx = false)
    (hc : ∀ w, w0.Since w0.heap.size w → w0.heap.size ≤ w.heap.size → Calls P f vs.toArray w fun e2 w2 => ∃ u S, e2 = .returned u ∧ nb u ∧ K.p u S w2 ∧ w.Since w.heap.size w2 ∧ ∀ g, S g → w.heap.size ≤ g ∧ g < w2.heap.size)
    (hK : wpK P ops w0 Q rest ⟨a.put (some d) undef, upd κ d (some K)⟩) : wpK P ops w0 Q (o :: rest) ⟨a, κ⟩ :=
  sCall hg hd hs f xs tys hop henter K hb (fun b fp w hw hN hR => by
    have e : xs.map b.eval = vs := by
      rw [← hvs]
      refine List.map_congr_left fun x hx => ?_
      unfold avoidK at ho
      rw [Bool.and_eq_true] at ho
      have h1 := List.all_eq_true.1 ho.1 x (by simpa using mem_call hop x hx)
      cases x with
      | tmp t =>
        simp only at h1
        exact (hR t (looks_op (mem_call hop _ hx))).none_ (by simpa using h1)
      | const v => rfl
      | global g => rfl
      | func f => rfl
    rw [e]
    exact hc w hw hN) hK
/-- a call of known arguments with one known value -/
theorem sCallV (hg : o.guard = none) (hd : o.dst = some d) (hk : κ d = none) (f : FuncId) (xs : List Operand) (tys : Array TypeId) (hop : o.op = Op.call ⟨.value (.func f), xs.toArray, tys⟩) (henter : ∀ args w2, (callFunc f args).run P w2 = .ok (.enter f args) w2) (ho : avoidK ⟨a, κ⟩ o = true) (vs : List Value) (hvs : xs.map a.eval = vs) (z : Value)
    (hc : ∀ w, w0.Since w0.heap.size w → w0.heap.size ≤ w.heap.size → Calls P f vs.toArray w fun e2 w2 => e2 = .returned z ∧ w.Since w.heap.size w2)
    (hK : wpK P ops w0 Q rest ⟨a.put (some d) z, κ⟩) : wpK P ops w0 Q (o :: rest) ⟨a, κ⟩ :=
  wpK_callV hg f xs tys hop henter z (fun b fp w hw hN hR => by
    have e : xs.map b.eval = vs := by
      rw [← hvs]
      refine List.map_congr_left fun x hx => ?_
      unfold avoidK at ho
      rw [Bool.and_eq_true] at ho
      have h1 := List.all_eq_true.1 ho.1 x (by simpa using mem_call hop x hx)
      cases x with
      | tmp t =>
        simp only at h1
        exact (hR t (looks_op (mem_call hop _ hx))).none_ (by simpa using h1)
      | const v => rfl
      | global g => rfl
      | func f => rfl
    rw [e]
    exact hc w hw hN) (by rw [hd, put_known hk]; exact hK)
/-- a call, one of whose arguments is known by its properties -/
theorem sCall1 (hg : o.guard = none) (hd : o.dst = some d) (hs : d < a.tmps.size) (f : FuncId) (xs : List Operand) (tys : Array TypeId) (hop : o.op = Op.call ⟨.value (.func f), xs.toArray, tys⟩) (henter : ∀ args w2, (callFunc f args).run P w2 = .ok (.enter f args) w2) (s : Nat) (hin : (.tmp s : Operand) ∈ xs) (K0 : Kd) (hks : κ s = some K0) (V : Value → List Value)
    (hV : ∀ b : Act, (xs.map fun x => match x with | .tmp t => (match κ t with | some _ => b.tmps.getD t undef | none => a.tmps.getD t undef) | y => a.eval y) = V (b.tmps.getD s undef)) (K : Kd) (hb : K.bx = false)
    (hc : ∀ u S w, w0.Since w0.heap.size w → w0.heap.size ≤ w.heap.size → K0.p u S w → Calls P f (V u).toArray w fun e2 w2 => ∃ u S, e2 = .returned u ∧ nb u ∧ K.p u S w2 ∧ w.Since w.heap.size w2 ∧ ∀ g, S g → w.heap.size ≤ g ∧ g < w2.heap.size)
    (hK : wpK P ops w0 Q rest ⟨a.put (some d) undef, upd κ d (some K)⟩) : wpK P ops w0 Q (o :: rest) ⟨a, κ⟩ :=
  sCall hg hd hs f xs tys hop henter K hb (fun b fp w hw hN hR => by
    have e := args_eq hR (mem_call hop)
    rw [e]
    have h := (hR s (looks_op (mem_call hop _ hin))).some_ hks
    have := hc _ _ w hw hN h.2.2.1
    rw [← hV b] at this
    exact this) hK
theorem sAlloc (hg : o.guard = none) (hd : o.dst = some d) (hs : d < a.tmps.size) (elem : TypeId) (hop : o.op = .alloc elem) (T : TypeId) (cs : List Value) (hrun : ∀ w : World, (Instr.alloc elem true (.tuple #[])).run P w = .ok (.pointer (some ⟨w.heap.size, 0, none⟩)) (w.alloc (.cells cs.toArray T)))
    (hK : wpK P ops w0 Q rest ⟨a.put (some d) undef, upd κ d (some (bxK T (· = cs)))⟩) : wpK P ops w0 Q (o :: rest) ⟨a, κ⟩ :=
  wpK_alloc hg elem hop T cs hrun (by rw [hd, put_some hs]; exact hK)
/-- a known struct is stored into a box of the statement's own -/
theorem sStore (hg : o.guard = none) (ty : TypeId) (p : Nat) (y : Operand) (hop : o.op = .store ty (.tmp p) y) (hd : o.dst = none) (T : TypeId) (Pc : List Value → Prop) (hk : κ p = some (bxK T Pc)) (n : Nat) (hn : ∀ cs, Pc cs → cs.length = n) (hi : (P.info? ty).map (·.size) = some n)
    (ho : avoidK ⟨a, fun i => if i = p then none else κ i⟩ o = true) (cs : List Value) (hy : a.eval y = .agg cs.toArray) (hyp : y ≠ .tmp p) (hl : cs.length = n) (h1 : cs.toArray.all (·.oneCell') = true)
    (hK : wpK P ops w0 Q rest ⟨a, upd κ p (some (bxK T (· = cs)))⟩) : wpK P ops w0 Q (o :: rest) ⟨a, κ⟩ :=
  wpK_store hg ty p y hop hd T Pc (· = cs) hk n hn hi (fun b fp w hw hN hR => ⟨cs, by
    rw [← hy]
    unfold avoidK at ho
    rw [Bool.and_eq_true] at ho
    cases y with
    | tmp t =>
      have h1 := List.all_eq_true.1 ho.1 (.tmp t) (by rw [hop]; simp [Op.operands])
      have hne : t ≠ p := fun e => hyp (by rw [e])
      simp only [if_neg hne] at h1
      exact (hR t (looks_op (by rw [hop]; simp [Op.operands]))).none_ (by simpa using h1)
    | const v => rfl
    | global g => rfl
    | func f => rfl, hl, rfl, h1⟩) (by rw [hd]; simpa [Fa.put, Act.put, k2, k1] using hK)
/-- a struct known by its properties is stored into a box of the statement's own -/
theorem sStoreK (hg : o.guard = none) (ty : TypeId) (p s : Nat) (hop : o.op = .store ty (.tmp p) (.tmp s)) (hd : o.dst = none) (T : TypeId) (Pc Pc' : List Value → Prop) (hk : κ p = some (bxK T Pc)) (K : Kd) (hks : κ s = some K) (n : Nat) (hn : ∀ cs, Pc cs → cs.length = n) (hi : (P.info? ty).map (·.size) = some n)
    (hy : ∀ u S w, K.p u S w → ∃ cs : List Value, u = .agg cs.toArray ∧ cs.length = n ∧ Pc' cs ∧ cs.toArray.all (·.oneCell') = true)
    (hK : wpK P ops w0 Q rest ⟨a, upd κ p (some (bxK T Pc'))⟩) : wpK P ops w0 Q (o :: rest) ⟨a, κ⟩ :=
  wpK_store hg ty p (.tmp s) hop hd T Pc Pc' hk n hn hi (fun b fp w hw hN hR => hy _ _ _ ((hR s (looks_op (by rw [hop]; simp [Op.operands]))).some_ hks).2.2.1) (by rw [hd]; simpa [Fa.put, Act.put, k2, k1] using hK)
end
/-! ### the end -/
theorem After.slot {w0 : World} {A : Fa} {Rr : Act → (Nat → Fp) → World → Prop} (d : Nat) (K : Kd) (hk : A.κ d = some K)
    (h : ∀ u, nb u → After w0 ⟨A.a.put (some d) u, upd A.κ d none⟩ fun b fp w => K.p u (fp d) w → (∀ g, fp d g → g < w.heap.size) → (K.bx = true → ∀ g, fp d g → w0.heap.size ≤ g) → Rr b fp w) : After w0 A Rr := by
  intro b fp w hw hN hab
  have hd := (hab.2.2.1 d).some_ hk
  refine h (b.tmps.getD d undef) hd.2.1 b fp w hw hN ⟨hab.1, by rw [put_size]; exact hab.2.1, fun i => ?_, fun i j K1 K2 hij hi hj hb => ?_⟩ hd.2.2.1 hd.2.2.2.1 hd.2.2.2.2
  · by_cases e : i = d
    · subst e
      refine R_of_none (by simp [upd]) ?_
      show _ = (A.a.tmps.setIfInBounds i (b.tmps.getD i undef)).getD i undef
      rw [Lo.getD_put]
      by_cases hs : i < A.a.tmps.size
      · rw [if_pos ⟨rfl, hs⟩]
      · rw [if_neg (fun h => hs h.2)]
        have e1 : A.a.tmps.getD i undef = undef := by simp [Array.getD_eq_getD_getElem?, Array.getElem?_eq_none (Nat.le_of_not_lt hs)]
        have e2 : b.tmps.getD i undef = undef := by
          have h2 := hab.2.1
          simp [Array.getD_eq_getD_getElem?, Array.getElem?_eq_none (show b.tmps.size ≤ i by rw [h2]; exact Nat.le_of_not_lt hs)]
        rw [e1, e2]
    · have hki : (Fa.mk (A.a.put (some d) (b.tmps.getD d undef)) (upd A.κ d none)).κ i = A.κ i := by simp [upd, e]
      have hv : (A.a.put (some d) (b.tmps.getD d undef)).tmps.getD i undef = A.a.tmps.getD i undef := by
        show (A.a.tmps.setIfInBounds d (b.tmps.getD d undef)).getD i undef = _
        rw [Lo.getD_put, if_neg (fun h => e h.1.symm)]
      have h3 := hab.2.2.1 i
      unfold R at h3 ⊢
      rw [hki]
      simp only [hv]
      exact h3
  · have hi' : i ≠ d ∧ A.κ i = some K1 := by
      by_cases e : i = d
      · subst e; simp [upd] at hi
      · exact ⟨e, by simpa [upd, e] using hi⟩
    have hj' : j ≠ d ∧ A.κ j = some K2 := by
      by_cases e : j = d
      · subst e; simp [upd] at hj
      · exact ⟨e, by simpa [upd, e] using hj⟩
    exact hab.2.2.2 i j K1 K2 hij hi'.2 hj'.2 hb
theorem After.apart {w0 : World} {A : Fa} {Rr : Act → (Nat → Fp) → World → Prop} (i j : Nat) (K K' : Kd) (hi : A.κ i = some K) (hj : A.κ j = some K') (hb : K.bx = true) (hne : i ≠ j)
    (h : After w0 A fun b fp w => (∀ g, fp i g → ¬ fp j g) → Rr b fp w) : After w0 A Rr := fun b fp w hw hN hab => h b fp w hw hN hab (hab.2.2.2 i j K K' hne hi hj hb)
def nbut (ds : List Nat) (κ : Nat → Option Kd) : Prop := ∀ i, i ∉ ds → κ i = none
theorem nbut.start {ds : List Nat} : nbut ds (fun _ => none) := fun _ _ => rfl
theorem nbut.upd {ds : List Nat} {κ : Nat → Option Kd} {d : Nat} {k : Option Kd} (hd : d ∈ ds) (h : nbut ds κ) : nbut ds (Lk.upd κ d k) := fun i hi => by
  have : i ≠ d := fun e => hi (e ▸ hd)
  simp only [Lk.upd, if_neg this]
  exact h i hi
theorem After.end_ {w0 : World} {a : Act} {κ : Nat → Option Kd} {Rr : Act → (Nat → Fp) → World → Prop} (ds : List Nat) (hn : nbut ds κ) (hk : (ds.all fun d => (κ d).isNone) = true) (h : ∀ fp w, w0.Since w0.heap.size w → Rr a fp w) : After w0 ⟨a, κ⟩ Rr := by
  intro b fp w hw hN hab
  obtain ⟨h1, h2, h3, _⟩ := hab
  have hall : ∀ i, κ i = none := fun i => by
    by_cases hi : i ∈ ds
    · have := List.all_eq_true.1 hk i hi
      simpa using this
    · exact hn i hi
  have e : b = a := by
    obtain ⟨bt, bd⟩ := b
    obtain ⟨at_, ad⟩ := a
    simp only at h1 h2 h3
    subst h1
    congr 1
    apply Array.ext h2
    intro i hi1 hi2
    have := (h3 i).none_ (hall i)
    simpa [Array.getD_eq_getD_getElem?, hi1, hi2] using this
  subst e
  exact h fp w hw
end Lk
end Go.Proofs.Ytflpackchlpedaa
