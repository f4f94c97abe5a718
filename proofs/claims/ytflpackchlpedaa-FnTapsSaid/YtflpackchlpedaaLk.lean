/- Statements whose order is open, and which make memory and store into it: one walk in the order of the text serves every order. Of a slot it is known what it is, or only what is true of it and of the blocks that it speaks of. -/
import Derived.Test.YtflpackchlpedaaLw
import Derived.Deep.QuietTactic
import Derived.BigQuiet
set_option linter.unusedVariables false
set_option linter.unusedSimpArgs false
namespace Go.Proofs.Ytflpackchlpedaa
namespace Lk
open Fl Ieee
/-- blocks -/
abbrev Fp := Nat → Prop
/-- what is known of a slot: of its value, of blocks, of a world; bx: these blocks are its own -/
structure Kd where
  p : Value → Fp → World → Prop
  stable : ∀ u S (w w' : World), (∀ g, S g → w'.heap[g]? = w.heap[g]?) → p u S w → p u S w'
  bx : Bool
inductive Va where
  | v (u : Value)
  | k (K : Kd)
def Va.val : Va → Value
  | .v u => u
  | .k _ => undef
def Va.kd : Va → Option Kd
  | .v _ => none
  | .k K => some K
/-- what an operation leaves: in its slot, and of the box into which it stores -/
structure Ef where
  x : Va
  st : Option (Nat × Kd)
def ev (u : Value) : Ef := ⟨.v u, none⟩
structure Fa where
  a : Act
  κ : Nat → Option Kd
def nb : Value → Prop
  | .bool _ => False
  | _ => True
def upd (κ : Nat → Option Kd) (d : Nat) (k : Option Kd) : Nat → Option Kd := fun i => if i = d then k else κ i
def k1 (A : Fa) (dst : Option Tmp) (x : Va) : Nat → Option Kd :=
  match dst with
  | some d => if d < A.a.tmps.size then upd A.κ d x.kd else A.κ
  | none => A.κ
def k2 (κ : Nat → Option Kd) : Option (Nat × Kd) → Nat → Option Kd
  | some q => upd κ q.1 (some q.2)
  | none => κ
def Fa.put (A : Fa) (dst : Option Tmp) (e : Ef) : Fa := ⟨A.a.put dst e.x.val, k2 (k1 A dst e.x) e.st⟩
/-- the box into which an operation stores -/
def stOf (o : Oper) : Option Nat :=
  match o.op with
  | .store _ (.tmp p) _ => some p
  | _ => none
theorem put_size (a : Act) (dst : Option Tmp) (v : Value) : (a.put dst v).tmps.size = a.tmps.size := by cases dst <;> simp [Act.put]
def R (N : Nat) (A : Fa) (i : Nat) (b : Act) (fp : Nat → Fp) (w : World) : Prop :=
  match A.κ i with
  | none => b.tmps.getD i undef = A.a.tmps.getD i undef
  | some K => nb (A.a.tmps.getD i undef) ∧ nb (b.tmps.getD i undef) ∧ K.p (b.tmps.getD i undef) (fp i) w ∧ (∀ g, fp i g → g < w.heap.size) ∧ (K.bx = true → ∀ g, fp i g → N ≤ g)
def AR (N : Nat) (A : Fa) (b : Act) (fp : Nat → Fp) (w : World) : Prop :=
  b.defers = A.a.defers ∧ b.tmps.size = A.a.tmps.size ∧ (∀ i, R N A i b fp w) ∧ ∀ i j K K', i ≠ j → A.κ i = some K → A.κ j = some K' → K.bx = true → ∀ g, fp i g → ¬ fp j g
theorem R.none_ {N : Nat} {A : Fa} {i : Nat} {b : Act} {fp : Nat → Fp} {w : World} (h : R N A i b fp w) (hk : A.κ i = none) : b.tmps.getD i undef = A.a.tmps.getD i undef := by
  unfold R at h; rw [hk] at h; exact h
theorem R.some_ {N : Nat} {A : Fa} {i : Nat} {b : Act} {fp : Nat → Fp} {w : World} {K : Kd} (h : R N A i b fp w) (hk : A.κ i = some K) : nb (A.a.tmps.getD i undef) ∧ nb (b.tmps.getD i undef) ∧ K.p (b.tmps.getD i undef) (fp i) w ∧ (∀ g, fp i g → g < w.heap.size) ∧ (K.bx = true → ∀ g, fp i g → N ≤ g) := by
  unfold R at h; rw [hk] at h; exact h
theorem R_of_none {N : Nat} {A : Fa} {i : Nat} {b : Act} {fp : Nat → Fp} {w : World} (hk : A.κ i = none) (h : b.tmps.getD i undef = A.a.tmps.getD i undef) : R N A i b fp w := by
  unfold R; rw [hk]; exact h
theorem R_of_some {N : Nat} {A : Fa} {i : Nat} {b : Act} {fp : Nat → Fp} {w : World} {K : Kd} (hk : A.κ i = some K) (h : nb (A.a.tmps.getD i undef) ∧ nb (b.tmps.getD i undef) ∧ K.p (b.tmps.getD i undef) (fp i) w ∧ (∀ g, fp i g → g < w.heap.size) ∧ (K.bx = true → ∀ g, fp i g → N ≤ g)) : R N A i b fp w := by
  unfold R; rw [hk]; exact h
/-- the operation has left this -/
def good (ops : Array Oper) (N : Nat) (o : Oper) (A : Fa) (b : Act) (fp : Nat → Fp) (w : World) (e : Ef) (u : Value) (w' : World) : Prop :=
  (match e.x with
   | .v z => u = z
   | .k K => nb u ∧ ∃ S : Fp, K.p u S w' ∧ (K.bx = true → ∀ g, S g → w.heap.size ≤ g) ∧ ∀ g, S g → g < w'.heap.size ∧ (w.heap.size ≤ g ∨ g < N ∨ ∃ j K', j ∈ o.looksAt ops ∧ A.κ j = some K' ∧ K'.bx = false ∧ fp j g)) ∧
  (match e.st with
   | none => w.Since w.heap.size w'
   | some q => w.Since N w' ∧ w'.heap.size = w.heap.size ∧ (∃ K0, A.κ q.1 = some K0 ∧ K0.bx = true) ∧ q.2.bx = true ∧ q.2.p (b.tmps.getD q.1 undef) (fp q.1) w' ∧ ∀ k, ¬ fp q.1 k → w'.heap[k]? = w.heap[k]?)
theorem since_of {N : Nat} {w0 w w' : World} (h : w0.Since N w) (hs : w.Since w.heap.size w') (hN : N ≤ w.heap.size) : w0.Since N w' := h.trans (since_mono hs hN)
section
variable {P : Program} {ops : Array Oper} {md : Region.Mode} {w0 : World}
/-- one step keeps the relation -/
theorem AR.step {N : Nat} {o : Oper} {A : Fa} {b : Act} {fp : Nat → Fp} {w w' : World} {e : Ef} {u : Value} (h : AR N A b fp w) (hd : ∀ q, e.st = some q → o.dst = none) (hN : N ≤ w.heap.size) (hg : good ops N o A b fp w e u w') :
    ∃ fp', AR N (A.put o.dst e) (b.put o.dst u) fp' w' := by
  obtain ⟨h1, h2, h3, h4⟩ := h
  obtain ⟨x, st⟩ := e
  obtain ⟨hx, hst⟩ := hg
  simp only at hx hst hd
  cases st with
  | some q =>
    obtain ⟨p, K⟩ := q
    have hdn := hd _ rfl
    simp only at hst
    obtain ⟨s1, s2, ⟨K0, hK0, hb0⟩, hb, hp, hoth⟩ := hst
    rw [hdn]
    refine ⟨fp, h1, h2, fun i => ?_, fun i j Ki Kj hij hi hj hbi => ?_⟩
    · by_cases e : i = p
      · subst e
        have := (h3 i).some_ hK0
        exact R_of_some (K := K) (by simp [Fa.put, k2, upd]) ⟨this.1, this.2.1, hp, fun g hg => by rw [s2]; exact this.2.2.2.1 g hg, fun _ => this.2.2.2.2 hb0⟩
      · have hk : (A.put none ⟨x, some (p, K)⟩).κ i = A.κ i := by simp [Fa.put, k2, k1, upd, e]
        cases hki : A.κ i with
        | none => exact R_of_none (hk.trans hki) ((h3 i).none_ hki)
        | some Ki =>
          have := (h3 i).some_ hki
          exact R_of_some (hk.trans hki) ⟨this.1, this.2.1, Ki.stable _ _ w w' (fun g hg => hoth g fun hpg => h4 p i K0 Ki (Ne.symm e) hK0 hki hb0 g hpg hg) this.2.2.1, fun g hg => by rw [s2]; exact this.2.2.2.1 g hg, this.2.2.2.2⟩
    · have hk : ∀ i K', (A.put none ⟨x, some (p, K)⟩).κ i = some K' → ∃ K'', A.κ i = some K'' ∧ (K'.bx = true → K''.bx = true) := by
        intro i K' hi
        by_cases e : i = p
        · subst e; exact ⟨K0, hK0, fun _ => hb0⟩
        · exact ⟨K', by simpa [Fa.put, k2, k1, upd, e] using hi, id⟩
      obtain ⟨K1, hi1, hb1⟩ := hk i Ki hi
      obtain ⟨K2, hj2, _⟩ := hk j Kj hj
      exact h4 i j K1 K2 hij hi1 hj2 (hb1 hbi)
  | none =>
    simp only at hst
    have keep : ∀ i K, A.κ i = some K → K.p (b.tmps.getD i undef) (fp i) w' ∧ ∀ g, fp i g → g < w'.heap.size := fun i K hi => by
      have := (h3 i).some_ hi
      exact ⟨K.stable _ _ w w' (fun g hg => hst.block g (this.2.2.2.1 g hg)) this.2.2.1, fun g hg => Nat.lt_of_lt_of_le (this.2.2.2.1 g hg) hst.size⟩
    have stay : ∀ i, R N A i b fp w → R N A i b fp w' := fun i hi => by
      cases hki : A.κ i with
      | none => exact R_of_none hki (hi.none_ hki)
      | some K =>
        have := hi.some_ hki
        have k := keep i K hki
        exact R_of_some hki ⟨this.1, this.2.1, k.1, k.2, this.2.2.2.2⟩
    cases hdst : o.dst with
    | none => exact ⟨fp, h1, h2, fun i => stay i (h3 i), h4⟩
    | some d =>
      by_cases hsz : d < A.a.tmps.size
      · have hbs : d < b.tmps.size := by rw [h2]; exact hsz
        have gA : ∀ i, (A.a.put (some d) x.val).tmps.getD i undef = if d = i then x.val else A.a.tmps.getD i undef := fun i => by
          simp only [Act.put]; rw [Lo.getD_put]
          by_cases e : d = i
          · rw [if_pos ⟨e, hsz⟩, if_pos e]
          · rw [if_neg (fun h => e h.1), if_neg e]
        have gB : ∀ i, (b.put (some d) u).tmps.getD i undef = if d = i then u else b.tmps.getD i undef := fun i => by
          simp only [Act.put]; rw [Lo.getD_put]
          by_cases e : d = i
          · rw [if_pos ⟨e, hbs⟩, if_pos e]
          · rw [if_neg (fun h => e h.1), if_neg e]
        have hκ : ∀ i, (A.put (some d) ⟨x, none⟩).κ i = if i = d then x.kd else A.κ i := fun i => by simp [Fa.put, k2, k1, hsz, upd]
        have oth : ∀ (fp' : Nat → Fp), (∀ i, i ≠ d → fp' i = fp i) → ∀ i, i ≠ d → R N (A.put (some d) ⟨x, none⟩) i (b.put (some d) u) fp' w' := fun fp' hfp i hi => by
          have hk := hκ i
          rw [if_neg hi] at hk
          have s := stay i (h3 i)
          have ea : (A.put (some d) ⟨x, none⟩).a.tmps.getD i undef = A.a.tmps.getD i undef := by show (A.a.put (some d) x.val).tmps.getD i undef = _; rw [gA, if_neg (Ne.symm hi)]
          have eb : (b.put (some d) u).tmps.getD i undef = b.tmps.getD i undef := by rw [gB, if_neg (Ne.symm hi)]
          cases hki : A.κ i with
          | none => exact R_of_none (hk.trans hki) (by rw [ea, eb]; exact s.none_ hki)
          | some K => exact R_of_some (hk.trans hki) (by rw [ea, eb, hfp i hi]; exact s.some_ hki)
        cases x with
        | v z =>
          simp only at hx
          subst hx
          refine ⟨fp, by simpa [Act.put, Fa.put] using h1, by simpa [Act.put, Fa.put] using h2, fun i => ?_, fun i j Ki Kj hij hi hj hbi => ?_⟩
          · by_cases e : i = d
            · subst e
              refine R_of_none (by rw [hκ, if_pos rfl]; rfl) ?_
              show _ = (A.a.put (some i) _).tmps.getD i undef
              rw [gA, gB, if_pos rfl, if_pos rfl]
              rfl
            · exact oth fp (fun _ _ => rfl) i e
          · rw [hκ] at hi hj
            by_cases e : i = d
            · rw [if_pos e] at hi; cases hi
            · by_cases e2 : j = d
              · rw [if_pos e2] at hj; cases hj
              · rw [if_neg e] at hi; rw [if_neg e2] at hj
                exact h4 i j Ki Kj hij hi hj hbi
        | k K =>
          simp only at hx
          obtain ⟨hnb, S, hp, hfr, hS⟩ := hx
          refine ⟨fun i => if i = d then S else fp i, by simpa [Act.put, Fa.put] using h1, by simpa [Act.put, Fa.put] using h2, fun i => ?_, fun i j Ki Kj hij hi hj hbi => ?_⟩
          · by_cases e : i = d
            · subst e
              refine R_of_some (K := K) (by rw [hκ, if_pos rfl]; rfl) ?_
              rw [gB, if_pos rfl]
              refine ⟨?_, hnb, by simpa using hp, fun g hg => (hS g (by simpa using hg)).1, fun hb g hg => Nat.le_trans hN (hfr hb g (by simpa using hg))⟩
              show nb ((A.a.put (some i) _).tmps.getD i undef)
              rw [gA, if_pos rfl]
              exact trivial
            · exact oth _ (fun i hi => if_neg hi) i e
          · rw [hκ] at hi hj
            intro g hgi hgj
            by_cases e : i = d
            · rw [if_pos e] at hi
              injection hi with hi
              subst hi
              have hne : j ≠ d := fun h => hij (e.trans h.symm)
              rw [if_neg hne] at hj
              simp only [e, if_true, if_neg hne] at hgi hgj
              have := hfr hbi g hgi
              have := ((h3 j).some_ hj).2.2.2.1 g hgj
              omega
            · rw [if_neg e] at hi
              simp only [if_neg e] at hgi
              have bi := (h3 i).some_ hi
              have hlt := bi.2.2.2.1 g hgi
              have hge := bi.2.2.2.2 hbi g hgi
              by_cases e2 : j = d
              · simp only [if_pos e2] at hgj
                rcases (hS g hgj).2 with h5 | h5 | ⟨j', K', _, hj', hb', hg'⟩
                · omega
                · omega
                · refine h4 i j' Ki K' (fun e3 => ?_) hi hj' hbi g hgi hg'
                  subst e3
                  rw [hi] at hj'
                  injection hj' with hj'
                  subst hj'
                  rw [hbi] at hb'
                  cases hb'
              · rw [if_neg e2] at hj
                simp only [if_neg e2] at hgj
                exact h4 i j Ki Kj hij hi hj hbi g hgi hgj
      · have ea : ∀ z, A.a.put (some d) z = A.a := fun z => by
          obtain ⟨⟨ts, ds⟩, κ⟩ := A
          simp only [Act.put]
          congr 1
          exact Array.setIfInBounds_eq_of_size_le (by simpa using hsz)
        have eb : b.put (some d) u = b := by
          obtain ⟨ts, ds⟩ := b
          simp only [Act.put]
          congr 1
          exact Array.setIfInBounds_eq_of_size_le (by simp only at h2; rw [h2]; exact Nat.le_of_not_lt hsz)
        have eA : A.put (some d) ⟨x, none⟩ = A := by
          obtain ⟨a, κ⟩ := A
          simp only [Fa.put, k2, k1]
          rw [if_neg hsz, ea]
        rw [eA, eb]
        exact ⟨fp, h1, h2, fun i => stay i (h3 i), h4⟩
theorem good.world {N : Nat} {o : Oper} {A : Fa} {b : Act} {fp : Nat → Fp} {w w' : World} {e : Ef} {u : Value} (hw : w0.Since N w) (hN : N ≤ w.heap.size) (hg : good ops N o A b fp w e u w') : w0.Since N w' ∧ N ≤ w'.heap.size := by
  obtain ⟨x, st⟩ := e
  have h := hg.2
  cases st with
  | none => exact ⟨since_of hw h hN, Nat.le_trans hN h.size⟩
  | some q => exact ⟨hw.trans h.1, by rw [h.2.1]; exact hN⟩
def upon (P : Program) (G : Value → World → Prop) : Result Next → Prop
  | .ok (.value u) w' => G u w'
  | .ok .skip w' => G undef w'
  | .ok (.enter f args) w' => Calls P f args w' fun e w2 => ∃ u, e = .returned u ∧ G u w2
  | _ => False
/-- From every frame alike and in every world behind w0 the operation leaves this. -/
def loose (P : Program) (ops : Array Oper) (w0 : World) (o : Oper) (A : Fa) (e : Ef) : Prop :=
  (∀ q, e.st = some q → o.dst = none ∧ stOf o = some q.1) ∧ ∀ b fp w, w0.Since w0.heap.size w → w0.heap.size ≤ w.heap.size → b.tmps.size = A.a.tmps.size → (∀ i ∈ o.looksAt ops, R w0.heap.size A i b fp w) →
    upon P (good ops w0.heap.size o A b fp w e) ((execOp b.eval o).run P w)
def wpK (P : Program) (ops : Array Oper) (w0 : World) (Q : Fa → Prop) : List Oper → Fa → Prop
  | [], A => Q A
  | o :: rest, A => if Region.wanted o (yielded ops A.a.tmps) then ∃ e, loose P ops w0 o A e ∧ wpK P ops w0 Q rest (A.put o.dst e) else wpK P ops w0 Q rest (A.put o.dst (ev undef))
def at1 (P : Program) (ops : Array Oper) (w0 : World) (i : Nat) (K : Fa → Prop) (A : Fa) : Prop :=
  match ops[i]? with
  | none => K A
  | some o => if Region.wanted o (yielded ops A.a.tmps) then ∃ e, loose P ops w0 o A e ∧ K (A.put o.dst e) else K (A.put o.dst (ev undef))
theorem at1_mono {i : Nat} {A : Fa} {K K2 : Fa → Prop} (h : ∀ A, K A → K2 A) (hh : at1 P ops w0 i K A) : at1 P ops w0 i K2 A := by
  unfold at1 at *
  cases ho : ops[i]? with
  | none => rw [ho] at hh; exact h _ hh
  | some o =>
    rw [ho] at hh
    simp only at hh ⊢
    by_cases hw : Region.wanted o (yielded ops A.a.tmps) = true
    · rw [if_pos hw] at hh ⊢
      obtain ⟨v, h1, h2⟩ := hh
      exact ⟨v, h1, h _ h2⟩
    · rw [if_neg hw] at hh ⊢
      exact h _ hh
theorem nb_yield {ops : Array Oper} {a b : Act} (hs : b.tmps.size = a.tmps.size) (h : ∀ i, b.tmps.getD i undef = a.tmps.getD i undef ∨ nb (a.tmps.getD i undef) ∧ nb (b.tmps.getD i undef)) : yielded ops b.tmps = yielded ops a.tmps := by
  funext j
  unfold yielded
  cases ht : (ops[j]?).bind (·.dst) with
  | none => rfl
  | some t =>
    simp only [Option.bind_some]
    by_cases hs2 : t < a.tmps.size
    · rw [Lo.getD_of_lt b.tmps t (by rw [hs]; exact hs2), Lo.getD_of_lt a.tmps t hs2]
      rcases h t with e | ⟨e1, e2⟩
      · rw [e]
      · generalize a.tmps.getD t undef = x at *
        generalize b.tmps.getD t undef = y at *
        cases x <;> cases y <;> simp_all [nb]
    · have e1 : a.tmps[t]? = none := Array.getElem?_eq_none (Nat.le_of_not_lt hs2)
      have e2 : b.tmps[t]? = none := Array.getElem?_eq_none (by rw [hs]; exact Nat.le_of_not_lt hs2)
      rw [e1, e2]
theorem AR.yield {N : Nat} {A : Fa} {b : Act} {fp : Nat → Fp} {w : World} (h : AR N A b fp w) : yielded ops b.tmps = yielded ops A.a.tmps :=
  nb_yield h.2.1 fun i => by
    cases hk : A.κ i with
    | none => exact .inl ((h.2.2.1 i).none_ hk)
    | some K => have := (h.2.2.1 i).some_ hk; exact .inr ⟨this.1, this.2.1⟩
def anyL (P : Program) (md : Region.Mode) (ops : Array Oper) (w0 : World) (Q : Fa → Prop) : Nat → Array Bool → Fa → Prop
  | 0, listed, A => Region.ready md ops listed = [] ∧ Q A
  | n + 1, listed, A => (Region.ready md ops listed = [] → Q A) ∧ ∀ i ∈ Region.ready md ops listed, at1 P ops w0 i (anyL P md ops w0 Q n (listed.setIfInBounds i true)) A
theorem wp_of_at1 {i : Nat} {A : Fa} {b : Act} {fp : Nat → Fp} {K : Fa → Prop} {K2 : Act → World → Prop} {Q2 : Exit → Act → World → Prop} {w : World} (hw : w0.Since w0.heap.size w) (hN : w0.heap.size ≤ w.heap.size) (hab : AR w0.heap.size A b fp w)
    (h : ∀ A b fp w, w0.Since w0.heap.size w → w0.heap.size ≤ w.heap.size → AR w0.heap.size A b fp w → K A → K2 b w) (hh : at1 P ops w0 i K A) : wpOp P ops Q2 i K2 b w := by
  unfold at1 at hh
  unfold wpOp
  cases ho : ops[i]? with
  | none => rw [ho] at hh; exact h _ _ _ _ hw hN hab hh
  | some o =>
    rw [ho] at hh
    simp only at hh ⊢
    rw [hab.yield]
    by_cases hwt : Region.wanted o (yielded ops A.a.tmps) = true
    · rw [if_pos hwt] at hh ⊢
      obtain ⟨e, ⟨hd, h1⟩, h2⟩ := hh
      refine .inl ?_
      have h3 := h1 b fp w hw hN hab.2.1 (fun i _ => hab.2.2.1 i)
      have fin : ∀ u w', good ops w0.heap.size o A b fp w e u w' → K2 (b.put o.dst u) w' := fun u w' hg => by
        obtain ⟨fp', hab'⟩ := hab.step (fun q hq => (hd q hq).1) hN hg
        have hw' := hg.world hw hN
        exact h _ _ fp' w' hw'.1 hw'.2 hab' h2
      unfold Oper.wp
      generalize (execOp b.eval o).run P w = r at h3
      cases r with
      | ok n w2 =>
        cases n <;> simp only [upon] at h3 <;> simp only [Oper.upon]
        case value u => exact fin _ _ h3
        case skip => exact fin _ _ h3
        case enter f args =>
          refine h3.mono fun e w3 ⟨u, he, hu⟩ => ?_
          subst he
          exact fin _ _ hu
      | halt x w2 => simp only [upon] at h3
    · rw [if_neg hwt] at hh ⊢
      obtain ⟨fp', hab'⟩ := hab.step (ops := ops) (o := o) (e := ev undef) (u := undef) (fun q hq => by cases hq) hN ⟨rfl, World.Since.refl _ _⟩
      exact h _ _ fp' w hw hN hab' hh
theorem wpAny_of_anyL {Q : Fa → Prop} {Q2 : Exit → Act → World → Prop} (hQ : ∀ A b fp w, w0.Since w0.heap.size w → w0.heap.size ≤ w.heap.size → AR w0.heap.size A b fp w → Q A → Q2 .normal b w) : ∀ (n : Nat) (listed : Array Bool) (A : Fa) (b : Act) (fp : Nat → Fp) (w : World), w0.Since w0.heap.size w → w0.heap.size ≤ w.heap.size → AR w0.heap.size A b fp w →
    anyL P md ops w0 Q n listed A → wpAny P md ops Q2 n listed b w
  | 0, _, _, _, _, _, hw, hN, hab, h => ⟨h.1, hQ _ _ _ _ hw hN hab h.2⟩
  | n + 1, _, _, _, _, _, hw, hN, hab, h => ⟨fun h0 => hQ _ _ _ _ hw hN hab (h.1 h0), fun i hi => wp_of_at1 hw hN hab (fun A2 b2 fp2 w2 hw2 hN2 hab2 => wpAny_of_anyL hQ n _ A2 b2 fp2 w2 hw2 hN2 hab2) (h.2 i hi)⟩
/-! ### what an operation does not look at -/
def notIn (dst : Option Tmp) (e : Ef) (L : List Nat) : Prop := (∀ d, dst = some d → d ∉ L) ∧ ∀ q, e.st = some q → q.1 ∉ L
theorem put_κ {A : Fa} {dst : Option Tmp} {e : Ef} {i : Nat} (h1 : ∀ d, dst = some d → i ≠ d) (h2 : ∀ q, e.st = some q → i ≠ q.1) : (A.put dst e).κ i = A.κ i := by
  obtain ⟨x, st⟩ := e
  have hk : k1 A dst x i = A.κ i := by
    cases dst with
    | none => rfl
    | some d =>
      simp only [k1]
      by_cases hs : d < A.a.tmps.size
      · rw [if_pos hs]; simp [upd, h1 d rfl]
      · rw [if_neg hs]
  cases st with
  | none => exact hk
  | some q => simp only [Fa.put, k2, upd]; rw [if_neg (h2 q rfl)]; exact hk
theorem put_val {A : Fa} {dst : Option Tmp} {e : Ef} {i : Nat} (h1 : ∀ d, dst = some d → i ≠ d) : (A.put dst e).a.tmps.getD i undef = A.a.tmps.getD i undef := by
  cases dst with
  | none => rfl
  | some d =>
    show (A.a.tmps.setIfInBounds d e.x.val).getD i undef = _
    rw [Lo.getD_put, if_neg (fun h => h1 d rfl h.1.symm)]
theorem R_put {N : Nat} {A : Fa} {dst : Option Tmp} {e : Ef} {L : List Nat} (h : notIn dst e L) {i : Nat} (hi : i ∈ L) {b : Act} {fp : Nat → Fp} {w : World} : R N (A.put dst e) i b fp w ↔ R N A i b fp w := by
  unfold R
  have h1 : ∀ d, dst = some d → i ≠ d := fun d hd e => h.1 d hd (e ▸ hi)
  rw [put_κ h1 (fun q hq e => h.2 q hq (e ▸ hi)), put_val h1]
theorem good_put {N : Nat} {o : Oper} {A : Fa} {dst : Option Tmp} {e e2 : Ef} (h : notIn dst e (o.looksAt ops)) (hst : ∀ q, e2.st = some q → q.1 ∈ o.looksAt ops) {b : Act} {fp : Nat → Fp} {w : World} {u : Value} {w' : World} :
    good ops N o (A.put dst e) b fp w e2 u w' ↔ good ops N o A b fp w e2 u w' := by
  have hκ : ∀ j, j ∈ o.looksAt ops → (A.put dst e).κ j = A.κ j := fun j hj => put_κ (fun d hd e => h.1 d hd (e ▸ hj)) (fun q hq e => h.2 q hq (e ▸ hj))
  obtain ⟨x, st⟩ := e2
  unfold good
  refine and_congr ?_ ?_
  · cases x with
    | v z => exact Iff.rfl
    | k K =>
      refine and_congr Iff.rfl (exists_congr fun S => and_congr Iff.rfl (and_congr Iff.rfl (forall_congr' fun g => imp_congr Iff.rfl (and_congr Iff.rfl (or_congr Iff.rfl (or_congr Iff.rfl ?_))))))
      refine exists_congr fun j => exists_congr fun K' => ⟨fun ⟨a, b, c⟩ => ⟨a, (hκ j a).symm.trans b, c⟩, fun ⟨a, b, c⟩ => ⟨a, (hκ j a).trans b, c⟩⟩
  · cases st with
    | none => exact Iff.rfl
    | some q =>
      have := hκ q.1 (hst q rfl)
      simp only
      rw [this]
theorem stOf_looks {o : Oper} {p : Nat} (h : stOf o = some p) : p ∈ o.looksAt ops := by
  unfold stOf at h
  split at h
  · rename_i ho
    injection h with h
    subst h
    unfold Oper.looksAt
    rw [ho]
    simp [Op.operands]
  · cases h
theorem loose_put {o : Oper} {A : Fa} {dst : Option Tmp} {e e2 : Ef} (h : notIn dst e (o.looksAt ops)) : loose P ops w0 o (A.put dst e) e2 ↔ loose P ops w0 o A e2 := by
  have hsz : (A.put dst e).a.tmps.size = A.a.tmps.size := put_size _ _ _
  unfold loose
  refine and_congr_right fun hq => ?_
  have hst : ∀ q, e2.st = some q → q.1 ∈ o.looksAt ops := fun q hq2 => stOf_looks (hq q hq2).2
  have up : ∀ b fp w r, upon P (good ops w0.heap.size o (A.put dst e) b fp w e2) r ↔ upon P (good ops w0.heap.size o A b fp w e2) r := fun b fp w r => by
    have : good ops w0.heap.size o (A.put dst e) b fp w e2 = good ops w0.heap.size o A b fp w e2 := funext fun u => funext fun w' => propext (good_put h hst)
    rw [this]
  constructor
  · intro hl b fp w h1 h2 h3 h4
    exact (up b fp w _).1 (hl b fp w h1 h2 (h3.trans hsz.symm) fun i hi => (R_put h hi).2 (h4 i hi))
  · intro hl b fp w h1 h2 h3 h4
    exact (up b fp w _).2 (hl b fp w h1 h2 (h3.trans hsz) fun i hi => (R_put h hi).1 (h4 i hi))
def Yl (P : Program) (ops : Array Oper) (w0 : World) (o : Oper) (e : Ef) (A : Fa) : Prop :=
  (Region.wanted o (yielded ops A.a.tmps) = true ∧ loose P ops w0 o A e) ∨ (Region.wanted o (yielded ops A.a.tmps) = false ∧ e = ev undef)
theorem Yl.st {o : Oper} {e : Ef} {A : Fa} (h : Yl P ops w0 o e A) : ∀ q, e.st = some q → o.dst = none ∧ stOf o = some q.1 := by
  rcases h with ⟨_, h⟩ | ⟨_, rfl⟩
  · exact h.1
  · intro q hq; cases hq
theorem at1_of_Yl {i : Nat} {o : Oper} {e : Ef} {A : Fa} (hi : ops[i]? = some o) (hy : Yl P ops w0 o e A) {K : Fa → Prop} (h : K (A.put o.dst e)) : at1 P ops w0 i K A := by
  unfold at1
  rw [hi]
  simp only
  rcases hy with ⟨hw, hv⟩ | ⟨hw, rfl⟩
  · rw [if_pos hw]; exact ⟨e, hv, h⟩
  · rw [if_neg (by rw [hw]; decide)]; exact h
theorem Yl_of_at1 {i : Nat} {o : Oper} {A : Fa} {K : Fa → Prop} (hi : ops[i]? = some o) (h : at1 P ops w0 i K A) : ∃ e, Yl P ops w0 o e A ∧ K (A.put o.dst e) := by
  unfold at1 at h
  rw [hi] at h
  simp only at h
  by_cases hw : Region.wanted o (yielded ops A.a.tmps) = true
  · rw [if_pos hw] at h
    obtain ⟨v, h1, h2⟩ := h
    exact ⟨v, .inl ⟨hw, h1⟩, h2⟩
  · rw [if_neg hw] at h
    exact ⟨ev undef, .inr ⟨by simpa using hw, rfl⟩, h⟩
theorem put_comm (A : Fa) {x y : Option Tmp} (e f : Ef) (h : ∀ d, x = some d → y ≠ some d) (h1 : ∀ q d, e.st = some q → y = some d → q.1 ≠ d) (h2 : ∀ q d, f.st = some q → x = some d → q.1 ≠ d) (h3 : ∀ q r, e.st = some q → f.st = some r → q.1 ≠ r.1) :
    (A.put x e).put y f = (A.put y f).put x e := by
  have ea := Act.put_comm A.a (x := x) (y := y) e.x.val f.x.val h
  have s1 : ∀ z v, (A.a.put z v).tmps.size = A.a.tmps.size := fun z v => put_size _ _ _
  show Fa.mk _ _ = Fa.mk _ _
  congr 1
  funext i
  simp only [Fa.put]
  have hk : ∀ (κ : Nat → Option Kd) (d : Option Tmp) (v : Va) (i : Nat), k1 ⟨A.a, κ⟩ d v i = if (d = some i ∧ i < A.a.tmps.size) then v.kd else κ i := fun κ d v i => by
    cases d with
    | none => simp [k1]
    | some d =>
      simp only [k1]
      by_cases hs : d < A.a.tmps.size
      · rw [if_pos hs]
        simp only [upd]
        by_cases e : i = d
        · subst e; simp [hs]
        · rw [if_neg e, if_neg (fun h => e (by injection h.1 with h; exact h.symm))]
      · rw [if_neg hs]
        split
        · rename_i h
          obtain ⟨h, h'⟩ := h
          injection h with h
          subst h
          exact absurd h' hs
        · rfl
  have hk' : ∀ (z : Option Tmp) (u : Value) (κ : Nat → Option Kd) (d : Option Tmp) (v : Va) (i : Nat), k1 ⟨A.a.put z u, κ⟩ d v i = if (d = some i ∧ i < A.a.tmps.size) then v.kd else κ i := fun z u κ d v i => by
    rw [← hk κ d v i]
    cases d with
    | none => rfl
    | some d => simp only [k1, s1]
  have hA : ∀ (d : Option Tmp) (v : Va) (i : Nat), k1 A d v i = if (d = some i ∧ i < A.a.tmps.size) then v.kd else A.κ i := fun d v i => hk A.κ d v i
  have hk2 : ∀ (κ : Nat → Option Kd) (q : Option (Nat × Kd)) (i : Nat), k2 κ q i = match q with | some q => (if i = q.1 then some q.2 else κ i) | none => κ i := fun κ q i => by cases q <;> rfl
  obtain ⟨ex, es⟩ := e
  obtain ⟨fx, fs⟩ := f
  simp only at h1 h2 h3 ⊢
  rw [hk2, hk2]
  simp only [hk', hk2, hA]
  cases es with
  | none =>
    cases fs with
    | none =>
      simp only
      by_cases c1 : x = some i ∧ i < A.a.tmps.size
      · by_cases c2 : y = some i ∧ i < A.a.tmps.size
        · exact absurd c2.1 (h i c1.1)
        · have hy' : ¬ y = some i := fun e => c2 ⟨e, c1.2⟩
          simp [c1, hy']
      · simp [c1]
    | some r =>
      simp only
      by_cases c : i = r.1
      · subst c
        by_cases c1 : x = some r.1 ∧ r.1 < A.a.tmps.size
        · exact absurd rfl (h2 r r.1 rfl c1.1)
        · simp [c1]
      · simp only [if_neg c]
        by_cases c1 : x = some i ∧ i < A.a.tmps.size
        · by_cases c2 : y = some i ∧ i < A.a.tmps.size
          · exact absurd c2.1 (h i c1.1)
          · have hy' : ¬ y = some i := fun e => c2 ⟨e, c1.2⟩
            simp [c1, hy']
        · simp [c1]
  | some q =>
    cases fs with
    | none =>
      simp only
      by_cases c : i = q.1
      · subst c
        by_cases c1 : y = some q.1 ∧ q.1 < A.a.tmps.size
        · exact absurd rfl (h1 q q.1 rfl c1.1)
        · simp [c1]
      · simp only [if_neg c]
        by_cases c1 : x = some i ∧ i < A.a.tmps.size
        · by_cases c2 : y = some i ∧ i < A.a.tmps.size
          · exact absurd c2.1 (h i c1.1)
          · have hy' : ¬ y = some i := fun e => c2 ⟨e, c1.2⟩
            simp [c1, hy']
        · simp [c1]
    | some r =>
      have hqr := h3 q r rfl rfl
      simp only
      by_cases c : i = r.1
      · subst c
        have c3 : ¬ r.1 = q.1 := fun e => hqr e.symm
        by_cases c1 : x = some r.1 ∧ r.1 < A.a.tmps.size
        · exact absurd rfl (h2 r r.1 rfl c1.1)
        · simp [c1, c3]
      · by_cases c' : i = q.1
        · subst c'
          by_cases c1 : y = some q.1 ∧ q.1 < A.a.tmps.size
          · exact absurd rfl (h1 q q.1 rfl c1.1)
          · simp [c1, c]
        · simp only [if_neg c, if_neg c']
          by_cases c1 : x = some i ∧ i < A.a.tmps.size
          · by_cases c2 : y = some i ∧ i < A.a.tmps.size
            · exact absurd c2.1 (h i c1.1)
            · have hy' : ¬ y = some i := fun e => c2 ⟨e, c1.2⟩
              simp [c1, hy']
          · simp [c1]
/-- no operation but the store itself looks at the box into which it stores -/
def stB (ops : Array Oper) : Bool := (List.range ops.size).all fun i => (List.range ops.size).all fun j => i == j || match ops[i]?, ops[j]? with
  | some oi, some oj => (match stOf oi with | some p => !(oj.looksAt ops).contains p | none => true)
  | _, _ => true
theorem stB_spec (h : stB ops = true) {i j : Nat} {oi oj : Oper} (hi : ops[i]? = some oi) (hj : ops[j]? = some oj) (hne : i ≠ j) {p : Nat} (hp : stOf oi = some p) : p ∉ oj.looksAt ops := by
  unfold stB at h
  have h1 := List.all_eq_true.1 h i (List.mem_range.2 (Array.getElem?_eq_some_iff.1 hi).1)
  have h2 := List.all_eq_true.1 h1 j (List.mem_range.2 (Array.getElem?_eq_some_iff.1 hj).1)
  simp only [hi, hj, hp, Bool.or_eq_true, beq_iff_eq, hne, false_or, Bool.not_eq_true', List.contains_eq_mem, decide_eq_false_iff_not] at h2
  exact h2
theorem at1_swap {i j : Nat} {oi oj : Oper} {e : Ef} (hi : ops[i]? = some oi) (hj : ops[j]? = some oj) (hne : i ≠ j) (hS : stB ops = true) (hap : oi.apart ops oj = true) {K : Fa → Prop} {A : Fa}
    (hy : Yl P ops w0 oi e A) (h : at1 P ops w0 j K (A.put oi.dst e)) : at1 P ops w0 j (fun B => Yl P ops w0 oi e B ∧ K (B.put oi.dst e)) A := by
  obtain ⟨h1, h2, h3⟩ := Oper.apart_spec hap
  have n1 : notIn oi.dst e (oj.looksAt ops) := ⟨h1, fun q hq => stB_spec hS hi hj hne (hy.st q hq).2⟩
  have keep : ∀ f : Ef, (∀ q, f.st = some q → oj.dst = none ∧ stOf oj = some q.1) → Yl P ops w0 oi e (A.put oj.dst f) := fun f hf => by
    have n2 : notIn oj.dst f (oi.looksAt ops) := ⟨h3, fun q hq => stB_spec hS hj hi (Ne.symm hne) (hf q hq).2⟩
    unfold Yl at hy ⊢
    rw [show (A.put oj.dst f).a = A.a.put oj.dst f.x.val from rfl, wanted_put oi A.a oj.dst f.x.val h3, loose_put n2]
    exact hy
  have com : ∀ f : Ef, (∀ q, f.st = some q → oj.dst = none ∧ stOf oj = some q.1) → (A.put oi.dst e).put oj.dst f = (A.put oj.dst f).put oi.dst e := fun f hf => by
    refine put_comm A e f h2 (fun q d hq hd => ?_) (fun q d hq hd => ?_) (fun q r hq hr => ?_)
    · intro he
      exact h3 d hd (he ▸ stOf_looks (hy.st q hq).2)
    · intro he
      exact h1 d hd (he ▸ stOf_looks (hf q hq).2)
    · intro he
      exact stB_spec hS hi hj hne (hy.st q hq).2 (he ▸ stOf_looks (hf r hr).2)
  unfold at1 at *
  rw [hj] at h ⊢
  simp only at h ⊢
  rw [show (A.put oi.dst e).a = A.a.put oi.dst e.x.val from rfl, wanted_put oj A.a oi.dst e.x.val h1] at h
  by_cases hw : Region.wanted oj (yielded ops A.a.tmps) = true
  · rw [if_pos hw] at h ⊢
    obtain ⟨f, hf, hn⟩ := h
    have hf' := (loose_put n1).1 hf
    exact ⟨f, hf', keep f hf'.1, by rw [← com f hf'.1]; exact hn⟩
  · rw [if_neg hw] at h ⊢
    exact ⟨keep _ (fun q hq => by cases hq), by rw [← com _ (fun q hq => by cases hq)]; exact h⟩
theorem anyL_first {Q : Fa → Prop} {i : Nat} {oi : Oper} {e : Ef} (hi : ops[i]? = some oi) (hS : stB ops = true) :
    ∀ (n : Nat) (listed : Array Bool) (A : Fa),
      (∀ j oj, ops[j]? = some oj → j ≠ i → listed.getD j true = false → (∀ e ∈ oj.after, Region.binds md e = true → e.on ≠ i) → oi.apart ops oj = true) →
      i ∈ Region.ready md ops listed → Yl P ops w0 oi e A →
      anyL P md ops w0 Q n (listed.setIfInBounds i true) (A.put oi.dst e) → anyL P md ops w0 Q (n + 1) listed A := by
  intro n
  induction n with
  | zero =>
    intro listed A _ hr hy H
    refine ⟨fun h => (by rw [h] at hr; cases hr), fun j hj => ?_⟩
    by_cases e : j = i
    · subst e; exact at1_of_Yl hi hy H
    · have h0 := ready_mono hj e
      rw [H.1] at h0
      cases h0
  | succ n ih =>
    intro listed A hfree hr hy H
    refine ⟨fun h => (by rw [h] at hr; cases hr), fun j hj => ?_⟩
    by_cases e : j = i
    · subst e; exact at1_of_Yl hi hy H
    · obtain ⟨hjun, oj, hoj, hall⟩ := mem_ready.1 hj
      have hnot : ∀ x ∈ oj.after, Region.binds md x = true → x.on ≠ i := fun x hx hb heq => by
        have g1 := hall x hx hb
        have g0 := (mem_ready.1 hr).1
        rw [heq] at g1
        rcases Nat.lt_or_ge i listed.size with hl | hl
        · simp [hl] at g0 g1; rw [g0] at g1; cases g1
        · simp [Array.getElem?_eq_none hl] at g1
      have hsw := at1_swap hi hoj (Ne.symm e) hS (hfree j oj hoj e hjun hnot) hy (H.2 j (ready_mono hj e))
      refine at1_mono (fun b hb => ih (listed.setIfInBounds j true) b (fun k ok hk hki hun hno => ?_) (ready_mono hr (Ne.symm e)) hb.1 ?_) hsw
      · refine hfree k ok hk hki ?_ hno
        by_cases hjk : j = k
        · subst hjk; exact hjun
        · rw [getD_set_ne true hjk] at hun; exact hun
      · rw [Array.setIfInBounds_comm _ _ e]
        exact hb.2
theorem anyL_text {Q : Fa → Prop} (hS : stB ops = true) : ∀ (l : List Oper) (k : Nat) (listed : Array Bool) (A : Fa), (∀ j, l[j]? = ops[k + j]?) →
    Region.lexFrom md ops l.length k listed = true → wpK P ops w0 Q l A → anyL P md ops w0 Q l.length listed A
  | [], _, _, _, _, hB, h => ⟨by simpa [Region.lexFrom] using hB, h⟩
  | o :: l, k, listed, A, hl, hB, h => by
    have h0 : ops[k]? = some o := by simpa using (hl 0).symm
    simp only [List.length_cons, Region.lexFrom, Bool.and_eq_true] at hB
    obtain ⟨⟨hr, hf⟩, hB2⟩ := hB
    have hst : at1 P ops w0 k (wpK P ops w0 Q l) A := by unfold at1; rw [h0]; exact h
    obtain ⟨v, hy, hK⟩ := Yl_of_at1 h0 hst
    exact anyL_first h0 hS l.length listed A (Region.free_spec h0 hf) (by simpa using hr) hy
      (anyL_text hS l (k + 1) _ _ (fun j => by have := hl (j + 1); simpa [Nat.add_assoc, Nat.add_comm 1 j] using this) hB2 hK)
end
/-- what stands behind the statement -/
def After (w0 : World) (A : Fa) (Rr : Act → (Nat → Fp) → World → Prop) : Prop := ∀ b fp w, w0.Since w0.heap.size w → w0.heap.size ≤ w.heap.size → AR w0.heap.size A b fp w → Rr b fp w
/-- **One walk in the order of the text serves every order.** -/
theorem wp_k {P : Program} {id : Nat} {Q : Exit → Act → World → Prop} {a : Act} {w : World} {l : List Oper} (hm : P.follows .mixedOrders = true) (hB : Region.lexB .any l.toArray = true) (hS : stB l.toArray = true)
    (h : wpK P l.toArray w (fun A => After w A fun b _ v => Q .normal b v) l ⟨a, fun _ => none⟩) : (Code.region id l.toArray true).wp P Q a w := by
  simp only [Region.lexB, Bool.and_eq_true] at hB
  have s0 : w.Since w.heap.size { w with drawn := w.drawn + 1 } := ⟨rfl, rfl, rfl, Nat.le_refl _, fun _ _ => rfl⟩
  refine wp_region_any hm (wpAny_of_anyL (w0 := w) (Q := fun A => After w A fun b _ v => Q .normal b v)
    (fun A b fp v hw hN hab hq => hq b fp v hw hN hab) _ _ ⟨a, fun _ => none⟩ a (fun _ _ => False) _ s0 (Nat.le_refl _) ⟨rfl, rfl, fun i => R_of_none rfl rfl, fun i j K K' _ hi => by cases hi⟩ ?_)
  have := anyL_text (P := P) (w0 := w) (md := .any) hS l 0 (Array.replicate l.length false) ⟨a, fun _ => none⟩ (by simp) (by simpa using hB.2) h
  simpa using this
end Lk
end Go.Proofs.Ytflpackchlpedaa
