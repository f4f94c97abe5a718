/- Joined: Lk Ll Lm Gu Ta Gv Gw Gg Kf Kg -/
import Derived.Test.YtlddppnaakjamaaLw
import Derived.Deep.QuietTactic
import Derived.BigQuiet
import Derived.Deep.MidRow
import Derived.Test.YtlddppnaakjamaaHb
import Derived.Test.YtlddppnaakjamaaGq
import Derived.Laws.AppendOwnNone
import Derived.Lib.SliceRun
import Derived.Test.YtlddppnaakjamaaFq
/- Statements whose order is open, and which make memory and store into it: one walk in the order of the text serves every order. Of a slot it is known what it is, or only what is true of it and of the blocks that it speaks of. -/
set_option linter.unusedVariables false
set_option linter.unusedSimpArgs false
namespace Go.Proofs.Ytlddppnaakjamaa
namespace Lk
open Fl Ieee
/-- blocks -/
abbrev Fp := Nat → Prop
/-- what is known of a slot: of its value, of blocks, of a world; bx: these blocks are its own -/
structure Kd where
  p : Value → Fp → World → Prop
  stable : ∀ u S (w w' : World), (∀ g, S g → w'.heap[g]? = w.heap[g]?) → p u S w → p u S w'
  bx : Bool
inductive Va where
  | v (u : Value)
  | k (K : Kd)
def Va.val : Va → Value
  | .v u => u
  | .k _ => undef
def Va.kd : Va → Option Kd
  | .v _ => none
  | .k K => some K
/-- what an operation leaves: in its slot, and of the box into which it stores -/
structure Ef where
  x : Va
  st : Option (Nat × Kd)
def ev (u : Value) : Ef := ⟨.v u, none⟩
structure Fa where
  a : Act
  κ : Nat → Option Kd
def nb : Value → Prop
  | .bool _ => False
  | _ => True
def upd (κ : Nat → Option Kd) (d : Nat) (k : Option Kd) : Nat → Option Kd := fun i => if i = d then k else κ i
def k1 (A : Fa) (dst : Option Tmp) (x : Va) : Nat → Option Kd :=
  match dst with
  | some d => if d < A.a.tmps.size then upd A.κ d x.kd else A.κ
  | none => A.κ
def k2 (κ : Nat → Option Kd) : Option (Nat × Kd) → Nat → Option Kd
  | some q => upd κ q.1 (some q.2)
  | none => κ
def Fa.put (A : Fa) (dst : Option Tmp) (e : Ef) : Fa := ⟨A.a.put dst e.x.val, k2 (k1 A dst e.x) e.st⟩
/-- the box into which an operation stores -/
def stOf (o : Oper) : Option Nat :=
  match o.op with
  | .store _ (.tmp p) _ => some p
  | _ => none
theorem put_size (a : Act) (dst : Option Tmp) (v : Value) : (a.put dst v).tmps.size = a.tmps.size := by cases dst <;> simp [Act.put]
def R (N : Nat) (A : Fa) (i : Nat) (b : Act) (fp : Nat → Fp) (w : World) : Prop :=
  match A.κ i with
  | none => b.tmps.getD i undef = A.a.tmps.getD i undef
  | some K => nb (A.a.tmps.getD i undef) ∧ nb (b.tmps.getD i undef) ∧ K.p (b.tmps.getD i undef) (fp i) w ∧ (∀ g, fp i g → g < w.heap.size) ∧ (K.bx = true → ∀ g, fp i g → N ≤ g)
def AR (N : Nat) (A : Fa) (b : Act) (fp : Nat → Fp) (w : World) : Prop :=
  b.defers = A.a.defers ∧ b.tmps.size = A.a.tmps.size ∧ (∀ i, R N A i b fp w) ∧ ∀ i j K K', i ≠ j → A.κ i = some K → A.κ j = some K' → K.bx = true → ∀ g, fp i g → ¬ fp j g
theorem R.none_ {N : Nat} {A : Fa} {i : Nat} {b : Act} {fp : Nat → Fp} {w : World} (h : R N A i b fp w) (hk : A.κ i = none) : b.tmps.getD i undef = A.a.tmps.getD i undef := by
  unfold R at h; rw [hk] at h; exact h
theorem R.some_ {N : Nat} {A : Fa} {i : Nat} {b : Act} {fp : Nat → Fp} {w : World} {K : Kd} (h : R N A i b fp w) (hk : A.κ i = some K) : nb (A.a.tmps.getD i undef) ∧ nb (b.tmps.getD i undef) ∧ K.p (b.tmps.getD i undef) (fp i) w ∧ (∀ g, fp i g → g < w.heap.size) ∧ (K.bx = true → ∀ g, fp i g → N ≤ g) := by
  unfold R at h; rw [hk] at h; exact h
theorem R_of_none {N : Nat} {A : Fa} {i : Nat} {b : Act} {fp : Nat → Fp} {w : World} (hk : A.κ i = none) (h : b.tmps.getD i undef = A.a.tmps.getD i undef) : R N A i b fp w := by
  unfold R; rw [hk]; exact h
theorem R_of_some {N : Nat} {A : Fa} {i : Nat} {b : Act} {fp : Nat → Fp} {w : World} {K : Kd} (hk : A.κ i = some K) (h : nb (A.a.tmps.getD i undef) ∧ nb (b.tmps.getD i undef) ∧ K.p (b.tmps.getD i undef) (fp i) w ∧ (∀ g, fp i g → g < w.heap.size) ∧ (K.bx = true → ∀ g, fp i g → N ≤ g)) : R N A i b fp w := by
  unfold R; rw [hk]; exact h
/-- the operation has left this -/
def good (ops : Array Oper) (N : Nat) (o : Oper) (A : Fa) (b : Act) (fp : Nat → Fp) (w : World) (e : Ef) (u : Value) (w' : World) : Prop :=
  (match e.x with
   | .v z => u = z
   | .k K => nb u ∧ ∃ S : Fp, K.p u S w' ∧ (K.bx = true → ∀ g, S g → w.heap.size ≤ g) ∧ ∀ g, S g → g < w'.heap.size ∧ (w.heap.size ≤ g ∨ g < N ∨ ∃ j K', j ∈ o.looksAt ops ∧ A.κ j = some K' ∧ K'.bx = false ∧ fp j g)) ∧
  (match e.st with
   | none => w.Since w.heap.size w'
   | some q => w.Since N w' ∧ w'.heap.size = w.heap.size ∧ (∃ K0, A.κ q.1 = some K0 ∧ K0.bx = true) ∧ q.2.bx = true ∧ q.2.p (b.tmps.getD q.1 undef) (fp q.1) w' ∧ ∀ k, ¬ fp q.1 k → w'.heap[k]? = w.heap[k]?)
theorem since_of {N : Nat} {w0 w w' : World} (h : w0.Since N w) (hs : w.Since w.heap.size w') (hN : N ≤ w.heap.size) : w0.Since N w' := h.trans (since_mono hs hN)
section
variable {P : Program} {ops : Array Oper} {md : Region.Mode} {w0 : World}
/-- one step keeps the relation -/
theorem AR.step {N : Nat} {o : Oper} {A : Fa} {b : Act} {fp : Nat → Fp} {w w' : World} {e : Ef} {u : Value} (h : AR N A b fp w) (hd : ∀ q, e.st = some q → o.dst = none) (hN : N ≤ w.heap.size) (hg : good ops N o A b fp w e u w') :
    ∃ fp', AR N (A.put o.dst e) (b.put o.dst u) fp' w' := by
  obtain ⟨h1, h2, h3, h4⟩ := h
  obtain ⟨x, st⟩ := e
  obtain ⟨hx, hst⟩ := hg
  simp only at hx hst hd
  cases st with
  | some q =>
    obtain ⟨p, K⟩ := q
    have hdn := hd _ rfl
    simp only at hst
    obtain ⟨s1, s2, ⟨K0, hK0, hb0⟩, hb, hp, hoth⟩ := hst
    rw [hdn]
    refine ⟨fp, h1, h2, fun i => ?_, fun i j Ki Kj hij hi hj hbi => ?_⟩
    · by_cases e : i = p
      · subst e
        have := (h3 i).some_ hK0
        exact R_of_some (K := K) (by simp [Fa.put, k2, upd]) ⟨this.1, this.2.1, hp, fun g hg => by rw [s2]; exact this.2.2.2.1 g hg, fun _ => this.2.2.2.2 hb0⟩
      · have hk : (A.put none ⟨x, some (p, K)⟩).κ i = A.κ i := by simp [Fa.put, k2, k1, upd, e]
        cases hki : A.κ i with
        | none => exact R_of_none (hk.trans hki) ((h3 i).none_ hki)
        | some Ki =>
          have := (h3 i).some_ hki
          exact R_of_some (hk.trans hki) ⟨this.1, this.2.1, Ki.stable _ _ w w' (fun g hg => hoth g fun hpg => h4 p i K0 Ki (Ne.symm e) hK0 hki hb0 g hpg hg) this.2.2.1, fun g hg => by rw [s2]; exact this.2.2.2.1 g hg, this.2.2.2.2⟩
    · have hk : ∀ i K', (A.put none ⟨x, some (p, K)⟩).κ i = some K' → ∃ K'', A.κ i = some K'' ∧ (K'.bx = true → K''.bx = true) := by
        intro i K' hi
        by_cases e : i = p
        · subst e; exact ⟨K0, hK0, fun _ => hb0⟩
        · exact ⟨K', by simpa [Fa.put, k2, k1, upd, e] using hi, id⟩
      obtain ⟨K1, hi1, hb1⟩ := hk i Ki hi
      obtain ⟨K2, hj2, _⟩ := hk j Kj hj
      exact h4 i j K1 K2 hij hi1 hj2 (hb1 hbi)
  | none =>
    simp only at hst
    have keep : ∀ i K, A.κ i = some K → K.p (b.tmps.getD i undef) (fp i) w' ∧ ∀ g, fp i g → g < w'.heap.size := fun i K hi => by
      have := (h3 i).some_ hi
      exact ⟨K.stable _ _ w w' (fun g hg => hst.block g (this.2.2.2.1 g hg)) this.2.2.1, fun g hg => Nat.lt_of_lt_of_le (this.2.2.2.1 g hg) hst.size⟩
    have stay : ∀ i, R N A i b fp w → R N A i b fp w' := fun i hi => by
      cases hki : A.κ i with
      | none => exact R_of_none hki (hi.none_ hki)
      | some K =>
        have := hi.some_ hki
        have k := keep i K hki
        exact R_of_some hki ⟨this.1, this.2.1, k.1, k.2, this.2.2.2.2⟩
    cases hdst : o.dst with
    | none => exact ⟨fp, h1, h2, fun i => stay i (h3 i), h4⟩
    | some d =>
      by_cases hsz : d < A.a.tmps.size
      · have hbs : d < b.tmps.size := by rw [h2]; exact hsz
        have gA : ∀ i, (A.a.put (some d) x.val).tmps.getD i undef = if d = i then x.val else A.a.tmps.getD i undef := fun i => by
          simp only [Act.put]; rw [Lo.getD_put]
          by_cases e : d = i
          · rw [if_pos ⟨e, hsz⟩, if_pos e]
          · rw [if_neg (fun h => e h.1), if_neg e]
        have gB : ∀ i, (b.put (some d) u).tmps.getD i undef = if d = i then u else b.tmps.getD i undef := fun i => by
          simp only [Act.put]; rw [Lo.getD_put]
          by_cases e : d = i
          · rw [if_pos ⟨e, hbs⟩, if_pos e]
          · rw [if_neg (fun h => e h.1), if_neg e]
        have hκ : ∀ i, (A.put (some d) ⟨x, none⟩).κ i = if i = d then x.kd else A.κ i := fun i => by simp [Fa.put, k2, k1, hsz, upd]
        have oth : ∀ (fp' : Nat → Fp), (∀ i, i ≠ d → fp' i = fp i) → ∀ i, i ≠ d → R N (A.put (some d) ⟨x, none⟩) i (b.put (some d) u) fp' w' := fun fp' hfp i hi => by
          have hk := hκ i
          rw [if_neg hi] at hk
          have s := stay i (h3 i)
          have ea : (A.put (some d) ⟨x, none⟩).a.tmps.getD i undef = A.a.tmps.getD i undef := by show (A.a.put (some d) x.val).tmps.getD i undef = _; rw [gA, if_neg (Ne.symm hi)]
          have eb : (b.put (some d) u).tmps.getD i undef = b.tmps.getD i undef := by rw [gB, if_neg (Ne.symm hi)]
          cases hki : A.κ i with
          | none => exact R_of_none (hk.trans hki) (by rw [ea, eb]; exact s.none_ hki)
          | some K => exact R_of_some (hk.trans hki) (by rw [ea, eb, hfp i hi]; exact s.some_ hki)
        cases x with
        | v z =>
          simp only at hx
          subst hx
          refine ⟨fp, by simpa [Act.put, Fa.put] using h1, by simpa [Act.put, Fa.put] using h2, fun i => ?_, fun i j Ki Kj hij hi hj hbi => ?_⟩
          · by_cases e : i = d
            · subst e
              refine R_of_none (by rw [hκ, if_pos rfl]; rfl) ?_
              show _ = (A.a.put (some i) _).tmps.getD i undef
              rw [gA, gB, if_pos rfl, if_pos rfl]
              rfl
            · exact oth fp (fun _ _ => rfl) i e
          · rw [hκ] at hi hj
            by_cases e : i = d
            · rw [if_pos e] at hi; cases hi
            · by_cases e2 : j = d
              · rw [if_pos e2] at hj; cases hj
              · rw [if_neg e] at hi; rw [if_neg e2] at hj
                exact h4 i j Ki Kj hij hi hj hbi
        | k K =>
          simp only at hx
          obtain ⟨hnb, S, hp, hfr, hS⟩ := hx
          refine ⟨fun i => if i = d then S else fp i, by simpa [Act.put, Fa.put] using h1, by simpa [Act.put, Fa.put] using h2, fun i => ?_, fun i j Ki Kj hij hi hj hbi => ?_⟩
          · by_cases e : i = d
            · subst e
              refine R_of_some (K := K) (by rw [hκ, if_pos rfl]; rfl) ?_
              rw [gB, if_pos rfl]
              refine ⟨?_, hnb, by simpa using hp, fun g hg => (hS g (by simpa using hg)).1, fun hb g hg => Nat.le_trans hN (hfr hb g (by simpa using hg))⟩
              show nb ((A.a.put (some i) _).tmps.getD i undef)
              rw [gA, if_pos rfl]
              exact trivial
            · exact oth _ (fun i hi => if_neg hi) i e
          · rw [hκ] at hi hj
            intro g hgi hgj
            by_cases e : i = d
            · rw [if_pos e] at hi
              injection hi with hi
              subst hi
              have hne : j ≠ d := fun h => hij (e.trans h.symm)
              rw [if_neg hne] at hj
              simp only [e, if_true, if_neg hne] at hgi hgj
              have := hfr hbi g hgi
              have := ((h3 j).some_ hj).2.2.2.1 g hgj
              omega
            · rw [if_neg e] at hi
              simp only [if_neg e] at hgi
              have bi := (h3 i).some_ hi
              have hlt := bi.2.2.2.1 g hgi
              have hge := bi.2.2.2.2 hbi g hgi
              by_cases e2 : j = d
              · simp only [if_pos e2] at hgj
                rcases (hS g hgj).2 with h5 | h5 | ⟨j', K', _, hj', hb', hg'⟩
                · omega
                · omega
                · refine h4 i j' Ki K' (fun e3 => ?_) hi hj' hbi g hgi hg'
                  subst e3
                  rw [hi] at hj'
                  injection hj' with hj'
                  subst hj'
                  rw [hbi] at hb'
                  cases hb'
              · rw [if_neg e2] at hj
                simp only [if_neg e2] at hgj
                exact h4 i j Ki Kj hij hi hj hbi g hgi hgj
      · have ea : ∀ z, A.a.put (some d) z = A.a := fun z => by
          obtain ⟨⟨ts, ds⟩, κ⟩ := A
          simp only [Act.put]
          congr 1
          exact Array.setIfInBounds_eq_of_size_le (by simpa using hsz)
        have eb : b.put (some d) u = b := by
          obtain ⟨ts, ds⟩ := b
          simp only [Act.put]
          congr 1
          exact Array.setIfInBounds_eq_of_size_le (by simp only at h2; rw [h2]; exact Nat.le_of_not_lt hsz)
        have eA : A.put (some d) ⟨x, none⟩ = A := by
          obtain ⟨a, κ⟩ := A
          simp only [Fa.put, k2, k1]
          rw [if_neg hsz, ea]
        rw [eA, eb]
        exact ⟨fp, h1, h2, fun i => stay i (h3 i), h4⟩
theorem good.world {N : Nat} {o : Oper} {A : Fa} {b : Act} {fp : Nat → Fp} {w w' : World} {e : Ef} {u : Value} (hw : w0.Since N w) (hN : N ≤ w.heap.size) (hg : good ops N o A b fp w e u w') : w0.Since N w' ∧ N ≤ w'.heap.size := by
  obtain ⟨x, st⟩ := e
  have h := hg.2
  cases st with
  | none => exact ⟨since_of hw h hN, Nat.le_trans hN h.size⟩
  | some q => exact ⟨hw.trans h.1, by rw [h.2.1]; exact hN⟩
def upon (P : Program) (G : Value → World → Prop) : Result Next → Prop
  | .ok (.value u) w' => G u w'
  | .ok .skip w' => G undef w'
  | .ok (.enter f args) w' => Calls P f args w' fun e w2 => ∃ u, e = .returned u ∧ G u w2
  | _ => False
/-- From every frame alike and in every world behind w0 the operation leaves this. -/
def loose (P : Program) (ops : Array Oper) (w0 : World) (o : Oper) (A : Fa) (e : Ef) : Prop :=
  (∀ q, e.st = some q → o.dst = none ∧ stOf o = some q.1) ∧ ∀ b fp w, w0.Since w0.heap.size w → w0.heap.size ≤ w.heap.size → b.tmps.size = A.a.tmps.size → (∀ i ∈ o.looksAt ops, R w0.heap.size A i b fp w) →
    upon P (good ops w0.heap.size o A b fp w e) ((execOp b.eval o).run P w)
def wpK (P : Program) (ops : Array Oper) (w0 : World) (Q : Fa → Prop) : List Oper → Fa → Prop
  | [], A => Q A
  | o :: rest, A => if Region.wanted o (yielded ops A.a.tmps) then ∃ e, loose P ops w0 o A e ∧ wpK P ops w0 Q rest (A.put o.dst e) else wpK P ops w0 Q rest (A.put o.dst (ev undef))
def at1 (P : Program) (ops : Array Oper) (w0 : World) (i : Nat) (K : Fa → Prop) (A : Fa) : Prop :=
  match ops[i]? with
  | none => K A
  | some o => if Region.wanted o (yielded ops A.a.tmps) then ∃ e, loose P ops w0 o A e ∧ K (A.put o.dst e) else K (A.put o.dst (ev undef))
theorem at1_mono {i : Nat} {A : Fa} {K K2 : Fa → Prop} (h : ∀ A, K A → K2 A) (hh : at1 P ops w0 i K A) : at1 P ops w0 i K2 A := by
  unfold at1 at *
  cases ho : ops[i]? with
  | none => rw [ho] at hh; exact h _ hh
  | some o =>
    rw [ho] at hh
    simp only at hh ⊢
    by_cases hw : Region.wanted o (yielded ops A.a.tmps) = true
    · rw [if_pos hw] at hh ⊢
      obtain ⟨v, h1, h2⟩ := hh
      exact ⟨v, h1, h _ h2⟩
    · rw [if_neg hw] at hh ⊢
      exact h _ hh
theorem nb_yield {ops : Array Oper} {a b : Act} (hs : b.tmps.size = a.tmps.size) (h : ∀ i, b.tmps.getD i undef = a.tmps.getD i undef ∨ nb (a.tmps.getD i undef) ∧ nb (b.tmps.getD i undef)) : yielded ops b.tmps = yielded ops a.tmps := by
  funext j
  unfold yielded
  cases ht : (ops[j]?).bind (·.dst) with
  | none => rfl
  | some t =>
    simp only [Option.bind_some]
    by_cases hs2 : t < a.tmps.size
    · rw [Lo.getD_of_lt b.tmps t (by rw [hs]; exact hs2), Lo.getD_of_lt a.tmps t hs2]
      rcases h t with e | ⟨e1, e2⟩
      · rw [e]
      · generalize a.tmps.getD t undef = x at *
        generalize b.tmps.getD t undef = y at *
        cases x <;> cases y <;> simp_all [nb]
    · have e1 : a.tmps[t]? = none := Array.getElem?_eq_none (Nat.le_of_not_lt hs2)
      have e2 : b.tmps[t]? = none := Array.getElem?_eq_none (by rw [hs]; exact Nat.le_of_not_lt hs2)
      rw [e1, e2]
theorem AR.yield {N : Nat} {A : Fa} {b : Act} {fp : Nat → Fp} {w : World} (h : AR N A b fp w) : yielded ops b.tmps = yielded ops A.a.tmps :=
  nb_yield h.2.1 fun i => by
    cases hk : A.κ i with
    | none => exact .inl ((h.2.2.1 i).none_ hk)
    | some K => have := (h.2.2.1 i).some_ hk; exact .inr ⟨this.1, this.2.1⟩
def anyL (P : Program) (md : Region.Mode) (ops : Array Oper) (w0 : World) (Q : Fa → Prop) : Nat → Array Bool → Fa → Prop
  | 0, listed, A => Region.ready md ops listed = [] ∧ Q A
  | n + 1, listed, A => (Region.ready md ops listed = [] → Q A) ∧ ∀ i ∈ Region.ready md ops listed, at1 P ops w0 i (anyL P md ops w0 Q n (listed.setIfInBounds i true)) A
theorem wp_of_at1 {i : Nat} {A : Fa} {b : Act} {fp : Nat → Fp} {K : Fa → Prop} {K2 : Act → World → Prop} {Q2 : Exit → Act → World → Prop} {w : World} (hw : w0.Since w0.heap.size w) (hN : w0.heap.size ≤ w.heap.size) (hab : AR w0.heap.size A b fp w)
    (h : ∀ A b fp w, w0.Since w0.heap.size w → w0.heap.size ≤ w.heap.size → AR w0.heap.size A b fp w → K A → K2 b w) (hh : at1 P ops w0 i K A) : wpOp P ops Q2 i K2 b w := by
  unfold at1 at hh
  unfold wpOp
  cases ho : ops[i]? with
  | none => rw [ho] at hh; exact h _ _ _ _ hw hN hab hh
  | some o =>
    rw [ho] at hh
    simp only at hh ⊢
    rw [hab.yield]
    by_cases hwt : Region.wanted o (yielded ops A.a.tmps) = true
    · rw [if_pos hwt] at hh ⊢
      obtain ⟨e, ⟨hd, h1⟩, h2⟩ := hh
      refine .inl ?_
      have h3 := h1 b fp w hw hN hab.2.1 (fun i _ => hab.2.2.1 i)
      have fin : ∀ u w', good ops w0.heap.size o A b fp w e u w' → K2 (b.put o.dst u) w' := fun u w' hg => by
        obtain ⟨fp', hab'⟩ := hab.step (fun q hq => (hd q hq).1) hN hg
        have hw' := hg.world hw hN
        exact h _ _ fp' w' hw'.1 hw'.2 hab' h2
      unfold Oper.wp
      generalize (execOp b.eval o).run P w = r at h3
      cases r with
      | ok n w2 =>
        cases n <;> simp only [upon] at h3 <;> simp only [Oper.upon]
        case value u => exact fin _ _ h3
        case skip => exact fin _ _ h3
        case enter f args =>
          refine h3.mono fun e w3 ⟨u, he, hu⟩ => ?_
          subst he
          exact fin _ _ hu
      | halt x w2 => simp only [upon] at h3
    · rw [if_neg hwt] at hh ⊢
      obtain ⟨fp', hab'⟩ := hab.step (ops := ops) (o := o) (e := ev undef) (u := undef) (fun q hq => by cases hq) hN ⟨rfl, World.Since.refl _ _⟩
      exact h _ _ fp' w hw hN hab' hh
theorem wpAny_of_anyL {Q : Fa → Prop} {Q2 : Exit → Act → World → Prop} (hQ : ∀ A b fp w, w0.Since w0.heap.size w → w0.heap.size ≤ w.heap.size → AR w0.heap.size A b fp w → Q A → Q2 .normal b w) : ∀ (n : Nat) (listed : Array Bool) (A : Fa) (b : Act) (fp : Nat → Fp) (w : World), w0.Since w0.heap.size w → w0.heap.size ≤ w.heap.size → AR w0.heap.size A b fp w →
    anyL P md ops w0 Q n listed A → wpAny P md ops Q2 n listed b w
  | 0, _, _, _, _, _, hw, hN, hab, h => ⟨h.1, hQ _ _ _ _ hw hN hab h.2⟩
  | n + 1, _, _, _, _, _, hw, hN, hab, h => ⟨fun h0 => hQ _ _ _ _ hw hN hab (h.1 h0), fun i hi => wp_of_at1 hw hN hab (fun A2 b2 fp2 w2 hw2 hN2 hab2 => wpAny_of_anyL hQ n _ A2 b2 fp2 w2 hw2 hN2 hab2) (h.2 i hi)⟩
/-! ### what an operation does not look at -/
def notIn (dst : Option Tmp) (e : Ef) (L : List Nat) : Prop := (∀ d, dst = some d → d ∉ L) ∧ ∀ q, e.st = some q → q.1 ∉ L
theorem put_κ {A : Fa} {dst : Option Tmp} {e : Ef} {i : Nat} (h1 : ∀ d, dst = some d → i ≠ d) (h2 : ∀ q, e.st = some q → i ≠ q.1) : (A.put dst e).κ i = A.κ i := by
  obtain ⟨x, st⟩ := e
  have hk : k1 A dst x i = A.κ i := by
    cases dst with
    | none => rfl
    | some d =>
      simp only [k1]
      by_cases hs : d < A.a.tmps.size
      · rw [if_pos hs]; simp [upd, h1 d rfl]
      · rw [if_neg hs]
  cases st with
  | none => exact hk
  | some q => simp only [Fa.put, k2, upd]; rw [if_neg (h2 q rfl)]; exact hk
theorem put_val {A : Fa} {dst : Option Tmp} {e : Ef} {i : Nat} (h1 : ∀ d, dst = some d → i ≠ d) : (A.put dst e).a.tmps.getD i undef = A.a.tmps.getD i undef := by
  cases dst with
  | none => rfl
  | some d =>
    show (A.a.tmps.setIfInBounds d e.x.val).getD i undef = _
    rw [Lo.getD_put, if_neg (fun h => h1 d rfl h.1.symm)]
theorem R_put {N : Nat} {A : Fa} {dst : Option Tmp} {e : Ef} {L : List Nat} (h : notIn dst e L) {i : Nat} (hi : i ∈ L) {b : Act} {fp : Nat → Fp} {w : World} : R N (A.put dst e) i b fp w ↔ R N A i b fp w := by
  unfold R
  have h1 : ∀ d, dst = some d → i ≠ d := fun d hd e => h.1 d hd (e ▸ hi)
  rw [put_κ h1 (fun q hq e => h.2 q hq (e ▸ hi)), put_val h1]
theorem good_put {N : Nat} {o : Oper} {A : Fa} {dst : Option Tmp} {e e2 : Ef} (h : notIn dst e (o.looksAt ops)) (hst : ∀ q, e2.st = some q → q.1 ∈ o.looksAt ops) {b : Act} {fp : Nat → Fp} {w : World} {u : Value} {w' : World} :
    good ops N o (A.put dst e) b fp w e2 u w' ↔ good ops N o A b fp w e2 u w' := by
  have hκ : ∀ j, j ∈ o.looksAt ops → (A.put dst e).κ j = A.κ j := fun j hj => put_κ (fun d hd e => h.1 d hd (e ▸ hj)) (fun q hq e => h.2 q hq (e ▸ hj))
  obtain ⟨x, st⟩ := e2
  unfold good
  refine and_congr ?_ ?_
  · cases x with
    | v z => exact Iff.rfl
    | k K =>
      refine and_congr Iff.rfl (exists_congr fun S => and_congr Iff.rfl (and_congr Iff.rfl (forall_congr' fun g => imp_congr Iff.rfl (and_congr Iff.rfl (or_congr Iff.rfl (or_congr Iff.rfl ?_))))))
      refine exists_congr fun j => exists_congr fun K' => ⟨fun ⟨a, b, c⟩ => ⟨a, (hκ j a).symm.trans b, c⟩, fun ⟨a, b, c⟩ => ⟨a, (hκ j a).trans b, c⟩⟩
  · cases st with
    | none => exact Iff.rfl
    | some q =>
      have := hκ q.1 (hst q rfl)
      simp only
      rw [this]
theorem stOf_looks {o : Oper} {p : Nat} (h : stOf o = some p) : p ∈ o.looksAt ops := by
  unfold stOf at h
  split at h
  · rename_i ho
    injection h with h
    subst h
    unfold Oper.looksAt
    rw [ho]
    simp [Op.operands]
  · cases h
theorem loose_put {o : Oper} {A : Fa} {dst : Option Tmp} {e e2 : Ef} (h : notIn dst e (o.looksAt ops)) : loose P ops w0 o (A.put dst e) e2 ↔ loose P ops w0 o A e2 := by
  have hsz : (A.put dst e).a.tmps.size = A.a.tmps.size := put_size _ _ _
  unfold loose
  refine and_congr_right fun hq => ?_
  have hst : ∀ q, e2.st = some q → q.1 ∈ o.looksAt ops := fun q hq2 => stOf_looks (hq q hq2).2
  have up : ∀ b fp w r, upon P (good ops w0.heap.size o (A.put dst e) b fp w e2) r ↔ upon P (good ops w0.heap.size o A b fp w e2) r := fun b fp w r => by
    have : good ops w0.heap.size o (A.put dst e) b fp w e2 = good ops w0.heap.size o A b fp w e2 := funext fun u => funext fun w' => propext (good_put h hst)
    rw [this]
  constructor
  · intro hl b fp w h1 h2 h3 h4
    exact (up b fp w _).1 (hl b fp w h1 h2 (h3.trans hsz.symm) fun i hi => (R_put h hi).2 (h4 i hi))
  · intro hl b fp w h1 h2 h3 h4
    exact (up b fp w _).2 (hl b fp w h1 h2 (h3.trans hsz) fun i hi => (R_put h hi).1 (h4 i hi))
def Yl (P : Program) (ops : Array Oper) (w0 : World) (o : Oper) (e : Ef) (A : Fa) : Prop :=
  (Region.wanted o (yielded ops A.a.tmps) = true ∧ loose P ops w0 o A e) ∨ (Region.wanted o (yielded ops A.a.tmps) = false ∧ e = ev undef)
theorem Yl.st {o : Oper} {e : Ef} {A : Fa} (h : Yl P ops w0 o e A) : ∀ q, e.st = some q → o.dst = none ∧ stOf o = some q.1 := by
  rcases h with ⟨_, h⟩ | ⟨_, rfl⟩
  · exact h.1
  · intro q hq; cases hq
theorem at1_of_Yl {i : Nat} {o : Oper} {e : Ef} {A : Fa} (hi : ops[i]? = some o) (hy : Yl P ops w0 o e A) {K : Fa → Prop} (h : K (A.put o.dst e)) : at1 P ops w0 i K A := by
  unfold at1
  rw [hi]
  simp only
  rcases hy with ⟨hw, hv⟩ | ⟨hw, rfl⟩
  · rw [if_pos hw]; exact ⟨e, hv, h⟩
  · rw [if_neg (by rw [hw]; decide)]; exact h
theorem Yl_of_at1 {i : Nat} {o : Oper} {A : Fa} {K : Fa → Prop} (hi : ops[i]? = some o) (h : at1 P ops w0 i K A) : ∃ e, Yl P ops w0 o e A ∧ K (A.put o.dst e) := by
  unfold at1 at h
  rw [hi] at h
  simp only at h
  by_cases hw : Region.wanted o (yielded ops A.a.tmps) = true
  · rw [if_pos hw] at h
    obtain ⟨v, h1, h2⟩ := h
    exact ⟨v, .inl ⟨hw, h1⟩, h2⟩
  · rw [if_neg hw] at h
    exact ⟨ev undef, .inr ⟨by simpa using hw, rfl⟩, h⟩
theorem put_comm (A : Fa) {x y : Option Tmp} (e f : Ef) (h : ∀ d, x = some d → y ≠ some d) (h1 : ∀ q d, e.st = some q → y = some d → q.1 ≠ d) (h2 : ∀ q d, f.st = some q → x = some d → q.1 ≠ d) (h3 : ∀ q r, e.st = some q → f.st = some r → q.1 ≠ r.1) :
    (A.put x e).put y f = (A.put y f).put x e := by
  have ea := Act.put_comm A.a (x := x) (y := y) e.x.val f.x.val h
  have s1 : ∀ z v, (A.a.put z v).tmps.size = A.a.tmps.size := fun z v => put_size _ _ _
  show Fa.mk _ _ = Fa.mk _ _
  congr 1
  funext i
  simp only [Fa.put]
  have hk : ∀ (κ : Nat → Option Kd) (d : Option Tmp) (v : Va) (i : Nat), k1 ⟨A.a, κ⟩ d v i = if (d = some i ∧ i < A.a.tmps.size) then v.kd else κ i := fun κ d v i => by
    cases d with
    | none => simp [k1]
    | some d =>
      simp only [k1]
      by_cases hs : d < A.a.tmps.size
      · rw [if_pos hs]
        simp only [upd]
        by_cases e : i = d
        · subst e; simp [hs]
        · rw [if_neg e, if_neg (fun h => e (by injection h.1 with h; exact h.symm))]
      · rw [if_neg hs]
        split
        · rename_i h
          obtain ⟨h, h'⟩ := h
          injection h with h
          subst h
          exact absurd h' hs
        · rfl
  have hk' : ∀ (z : Option Tmp) (u : Value) (κ : Nat → Option Kd) (d : Option Tmp) (v : Va) (i : Nat), k1 ⟨A.a.put z u, κ⟩ d v i = if (d = some i ∧ i < A.a.tmps.size) then v.kd else κ i := fun z u κ d v i => by
    rw [← hk κ d v i]
    cases d with
    | none => rfl
    | some d => simp only [k1, s1]
  have hA : ∀ (d : Option Tmp) (v : Va) (i : Nat), k1 A d v i = if (d = some i ∧ i < A.a.tmps.size) then v.kd else A.κ i := fun d v i => hk A.κ d v i
  have hk2 : ∀ (κ : Nat → Option Kd) (q : Option (Nat × Kd)) (i : Nat), k2 κ q i = match q with | some q => (if i = q.1 then some q.2 else κ i) | none => κ i := fun κ q i => by cases q <;> rfl
  obtain ⟨ex, es⟩ := e
  obtain ⟨fx, fs⟩ := f
  simp only at h1 h2 h3 ⊢
  rw [hk2, hk2]
  simp only [hk', hk2, hA]
  cases es with
  | none =>
    cases fs with
    | none =>
      simp only
      by_cases c1 : x = some i ∧ i < A.a.tmps.size
      · by_cases c2 : y = some i ∧ i < A.a.tmps.size
        · exact absurd c2.1 (h i c1.1)
        · have hy' : ¬ y = some i := fun e => c2 ⟨e, c1.2⟩
          simp [c1, hy']
      · simp [c1]
    | some r =>
      simp only
      by_cases c : i = r.1
      · subst c
        by_cases c1 : x = some r.1 ∧ r.1 < A.a.tmps.size
        · exact absurd rfl (h2 r r.1 rfl c1.1)
        · simp [c1]
      · simp only [if_neg c]
        by_cases c1 : x = some i ∧ i < A.a.tmps.size
        · by_cases c2 : y = some i ∧ i < A.a.tmps.size
          · exact absurd c2.1 (h i c1.1)
          · have hy' : ¬ y = some i := fun e => c2 ⟨e, c1.2⟩
            simp [c1, hy']
        · simp [c1]
  | some q =>
    cases fs with
    | none =>
      simp only
      by_cases c : i = q.1
      · subst c
        by_cases c1 : y = some q.1 ∧ q.1 < A.a.tmps.size
        · exact absurd rfl (h1 q q.1 rfl c1.1)
        · simp [c1]
      · simp only [if_neg c]
        by_cases c1 : x = some i ∧ i < A.a.tmps.size
        · by_cases c2 : y = some i ∧ i < A.a.tmps.size
          · exact absurd c2.1 (h i c1.1)
          · have hy' : ¬ y = some i := fun e => c2 ⟨e, c1.2⟩
            simp [c1, hy']
        · simp [c1]
    | some r =>
      have hqr := h3 q r rfl rfl
      simp only
      by_cases c : i = r.1
      · subst c
        have c3 : ¬ r.1 = q.1 := fun e => hqr e.symm
        by_cases c1 : x = some r.1 ∧ r.1 < A.a.tmps.size
        · exact absurd rfl (h2 r r.1 rfl c1.1)
        · simp [c1, c3]
      · by_cases c' : i = q.1
        · subst c'
          by_cases c1 : y = some q.1 ∧ q.1 < A.a.tmps.size
          · exact absurd rfl (h1 q q.1 rfl c1.1)
          · simp [c1, c]
        · simp only [if_neg c, if_neg c']
          by_cases c1 : x = some i ∧ i < A.a.tmps.size
          · by_cases c2 : y = some i ∧ i < A.a.tmps.size
            · exact absurd c2.1 (h i c1.1)
            · have hy' : ¬ y = some i := fun e => c2 ⟨e, c1.2⟩
              simp [c1, hy']
          · simp [c1]
/-- no operation but the store itself looks at the box into which it stores -/
def stB (ops : Array Oper) : Bool := (List.range ops.size).all fun i => (List.range ops.size).all fun j => i == j || match ops[i]?, ops[j]? with
  | some oi, some oj => (match stOf oi with | some p => !(oj.looksAt ops).contains p | none => true)
  | _, _ => true
theorem stB_spec (h : stB ops = true) {i j : Nat} {oi oj : Oper} (hi : ops[i]? = some oi) (hj : ops[j]? = some oj) (hne : i ≠ j) {p : Nat} (hp : stOf oi = some p) : p ∉ oj.looksAt ops := by
  unfold stB at h
  have h1 := List.all_eq_true.1 h i (List.mem_range.2 (Array.getElem?_eq_some_iff.1 hi).1)
  have h2 := List.all_eq_true.1 h1 j (List.mem_range.2 (Array.getElem?_eq_some_iff.1 hj).1)
  simp only [hi, hj, hp, Bool.or_eq_true, beq_iff_eq, hne, false_or, Bool.not_eq_true', List.contains_eq_mem, decide_eq_false_iff_not] at h2
  exact h2
theorem at1_swap {i j : Nat} {oi oj : Oper} {e : Ef} (hi : ops[i]? = some oi) (hj : ops[j]? = some oj) (hne : i ≠ j) (hS : stB ops = true) (hap : oi.apart ops oj = true) {K : Fa → Prop} {A : Fa}
    (hy : Yl P ops w0 oi e A) (h : at1 P ops w0 j K (A.put oi.dst e)) : at1 P ops w0 j (fun B => Yl P ops w0 oi e B ∧ K (B.put oi.dst e)) A := by
  obtain ⟨h1, h2, h3⟩ := Oper.apart_spec hap
  have n1 : notIn oi.dst e (oj.looksAt ops) := ⟨h1, fun q hq => stB_spec hS hi hj hne (hy.st q hq).2⟩
  have keep : ∀ f : Ef, (∀ q, f.st = some q → oj.dst = none ∧ stOf oj = some q.1) → Yl P ops w0 oi e (A.put oj.dst f) := fun f hf => by
    have n2 : notIn oj.dst f (oi.looksAt ops) := ⟨h3, fun q hq => stB_spec hS hj hi (Ne.symm hne) (hf q hq).2⟩
    unfold Yl at hy ⊢
    rw [show (A.put oj.dst f).a = A.a.put oj.dst f.x.val from rfl, wanted_put oi A.a oj.dst f.x.val h3, loose_put n2]
    exact hy
  have com : ∀ f : Ef, (∀ q, f.st = some q → oj.dst = none ∧ stOf oj = some q.1) → (A.put oi.dst e).put oj.dst f = (A.put oj.dst f).put oi.dst e := fun f hf => by
    refine put_comm A e f h2 (fun q d hq hd => ?_) (fun q d hq hd => ?_) (fun q r hq hr => ?_)
    · intro he
      exact h3 d hd (he ▸ stOf_looks (hy.st q hq).2)
    · intro he
      exact h1 d hd (he ▸ stOf_looks (hf q hq).2)
    · intro he
      exact stB_spec hS hi hj hne (hy.st q hq).2 (he ▸ stOf_looks (hf r hr).2)
  unfold at1 at *
  rw [hj] at h ⊢
  simp only at h ⊢
  rw [show (A.put oi.dst e).a = A.a.put oi.dst e.x.val from rfl, wanted_put oj A.a oi.dst e.x.val h1] at h
  by_cases hw : Region.wanted oj (yielded ops A.a.tmps) = true
  · rw [if_pos hw] at h ⊢
    obtain ⟨f, hf, hn⟩ := h
    have hf' := (loose_put n1).1 hf
    exact ⟨f, hf', keep f hf'.1, by rw [← com f hf'.1]; exact hn⟩
  · rw [if_neg hw] at h ⊢
    exact ⟨keep _ (fun q hq => by cases hq), by rw [← com _ (fun q hq => by cases hq)]; exact h⟩
theorem anyL_first {Q : Fa → Prop} {i : Nat} {oi : Oper} {e : Ef} (hi : ops[i]? = some oi) (hS : stB ops = true) :
    ∀ (n : Nat) (listed : Array Bool) (A : Fa),
      (∀ j oj, ops[j]? = some oj → j ≠ i → listed.getD j true = false → (∀ e ∈ oj.after, Region.binds md e = true → e.on ≠ i) → oi.apart ops oj = true) →
      i ∈ Region.ready md ops listed → Yl P ops w0 oi e A →
      anyL P md ops w0 Q n (listed.setIfInBounds i true) (A.put oi.dst e) → anyL P md ops w0 Q (n + 1) listed A := by
  intro n
  induction n with
  | zero =>
    intro listed A _ hr hy H
    refine ⟨fun h => (by rw [h] at hr; cases hr), fun j hj => ?_⟩
    by_cases e : j = i
    · subst e; exact at1_of_Yl hi hy H
    · have h0 := ready_mono hj e
      rw [H.1] at h0
      cases h0
  | succ n ih =>
    intro listed A hfree hr hy H
    refine ⟨fun h => (by rw [h] at hr; cases hr), fun j hj => ?_⟩
    by_cases e : j = i
    · subst e; exact at1_of_Yl hi hy H
    · obtain ⟨hjun, oj, hoj, hall⟩ := mem_ready.1 hj
      have hnot : ∀ x ∈ oj.after, Region.binds md x = true → x.on ≠ i := fun x hx hb heq => by
        have g1 := hall x hx hb
        have g0 := (mem_ready.1 hr).1
        rw [heq] at g1
        rcases Nat.lt_or_ge i listed.size with hl | hl
        · simp [hl] at g0 g1; rw [g0] at g1; cases g1
        · simp [Array.getElem?_eq_none hl] at g1
      have hsw := at1_swap hi hoj (Ne.symm e) hS (hfree j oj hoj e hjun hnot) hy (H.2 j (ready_mono hj e))
      refine at1_mono (fun b hb => ih (listed.setIfInBounds j true) b (fun k ok hk hki hun hno => ?_) (ready_mono hr (Ne.symm e)) hb.1 ?_) hsw
      · refine hfree k ok hk hki ?_ hno
        by_cases hjk : j = k
        · subst hjk; exact hjun
        · rw [getD_set_ne true hjk] at hun; exact hun
      · rw [Array.setIfInBounds_comm _ _ e]
        exact hb.2
theorem anyL_text {Q : Fa → Prop} (hS : stB ops = true) : ∀ (l : List Oper) (k : Nat) (listed : Array Bool) (A : Fa), (∀ j, l[j]? = ops[k + j]?) →
    Region.lexFrom md ops l.length k listed = true → wpK P ops w0 Q l A → anyL P md ops w0 Q l.length listed A
  | [], _, _, _, _, hB, h => ⟨by simpa [Region.lexFrom] using hB, h⟩
  | o :: l, k, listed, A, hl, hB, h => by
    have h0 : ops[k]? = some o := by simpa using (hl 0).symm
    simp only [List.length_cons, Region.lexFrom, Bool.and_eq_true] at hB
    obtain ⟨⟨hr, hf⟩, hB2⟩ := hB
    have hst : at1 P ops w0 k (wpK P ops w0 Q l) A := by unfold at1; rw [h0]; exact h
    obtain ⟨v, hy, hK⟩ := Yl_of_at1 h0 hst
    exact anyL_first h0 hS l.length listed A (Region.free_spec h0 hf) (by simpa using hr) hy
      (anyL_text hS l (k + 1) _ _ (fun j => by have := hl (j + 1); simpa [Nat.add_assoc, Nat.add_comm 1 j] using this) hB2 hK)
end
/-- what stands behind the statement -/
def After (w0 : World) (A : Fa) (Rr : Act → (Nat → Fp) → World → Prop) : Prop := ∀ b fp w, w0.Since w0.heap.size w → w0.heap.size ≤ w.heap.size → AR w0.heap.size A b fp w → Rr b fp w
/-- **One walk in the order of the text serves every order.** -/
theorem wp_k {P : Program} {id : Nat} {Q : Exit → Act → World → Prop} {a : Act} {w : World} {l : List Oper} (hm : P.follows .mixedOrders = true) (hB : Region.lexB .any l.toArray = true) (hS : stB l.toArray = true)
    (h : wpK P l.toArray w (fun A => After w A fun b _ v => Q .normal b v) l ⟨a, fun _ => none⟩) : (Code.region id l.toArray true).wp P Q a w := by
  simp only [Region.lexB, Bool.and_eq_true] at hB
  have s0 : w.Since w.heap.size { w with drawn := w.drawn + 1 } := ⟨rfl, rfl, rfl, Nat.le_refl _, fun _ _ => rfl⟩
  refine wp_region_any hm (wpAny_of_anyL (w0 := w) (Q := fun A => After w A fun b _ v => Q .normal b v)
    (fun A b fp v hw hN hab hq => hq b fp v hw hN hab) _ _ ⟨a, fun _ => none⟩ a (fun _ _ => False) _ s0 (Nat.le_refl _) ⟨rfl, rfl, fun i => R_of_none rfl rfl, fun i j K K' _ hi => by cases hi⟩ ?_)
  have := anyL_text (P := P) (w0 := w) (md := .any) hS l 0 (Array.replicate l.length false) ⟨a, fun _ => none⟩ (by simp) (by simpa using hB.2) h
  simpa using this
end Lk
end Go.Proofs.Ytlddppnaakjamaa

/- The steps of a walk by Lk. -/
set_option linter.unusedVariables false
set_option linter.unusedSimpArgs false
namespace Go.Proofs.Ytlddppnaakjamaa
namespace Lk
open Fl Ieee
def pureOp (o : Oper) : Bool :=
  match o.op with
  | .move _ | .assign _ | .pick .. | .build .. | .load .. | .binOp .. | .unOp .. | .convert .. | .field .. | .index .. | .extract .. | .fieldAddr .. | .indexAddr .. | .makeInterface .. | .makeFunc .. | .slice .. | .sliceToArrayPointer .. => true
  | _ => false
theorem v_no_enter {P : Program} {s : Sem Value} {w w' : World} {f : FuncId} {args : Array Value} (h : (do pure (Next.value (← s)) : Sem Next).run P w = .ok (.enter f args) w') : False := by
  simp only [Sem.run_bind] at h
  cases hs : s.run P w with
  | ok a w2 => rw [hs] at h; simp [Result.andThen] at h
  | halt x w2 => rw [hs] at h; simp [Result.andThen] at h
theorem pure_no_enter {P : Program} {ρ : Operand → Value} {o : Oper} (h : pureOp o = true) {w w' : World} {f : FuncId} {args : Array Value} (e : (execOp ρ o).run P w = .ok (.enter f args) w') : False := by
  unfold pureOp at h
  unfold execOp at e
  cases ho : o.op <;> rw [ho] at h e <;> simp only at h e <;> first | (cases h; done) | exact v_no_enter e | (simp [Sem.run_pure] at e; done) | (simp only [Sem.run_bind, Sem.run_pure] at e; revert e; generalize Sem.run P _ w = r; intro e; cases r <;> simp [Result.andThen] at e; done) | skip
def avoidK (A : Fa) (o : Oper) : Bool := (o.op.operands.toList.all fun x => match x with | .tmp t => (A.κ t).isNone | _ => true) && (match o.op with | .select .. => false | _ => true)
theorem looks_op {ops : Array Oper} {o : Oper} {t : Nat} (h : (.tmp t : Operand) ∈ o.op.operands) : t ∈ o.looksAt ops := List.mem_append_left _ (List.mem_filterMap.2 ⟨.tmp t, by simpa using h, rfl⟩)
theorem eval_avoidK {ops : Array Oper} {N : Nat} {A : Fa} {b : Act} {fp : Nat → Fp} {w : World} {o : Oper} (hR : ∀ i ∈ o.looksAt ops, R N A i b fp w) (ho : avoidK A o = true) : execOp b.eval o = execOp A.a.eval o := by
  unfold avoidK at ho
  rw [Bool.and_eq_true] at ho
  refine execOp_congr o (fun cs bb e => by rw [e] at ho; simp at ho) fun x hx => ?_
  have h1 := List.all_eq_true.1 ho.1 x (by simpa using hx)
  cases x with
  | tmp t =>
    simp only at h1
    have hk : A.κ t = none := by simpa using h1
    exact (hR t (looks_op hx)).none_ hk
  | const v => rfl
  | global g => rfl
  | func f => rfl
/-- arguments, those that are known by their properties alone as they are -/
theorem args_eq {ops : Array Oper} {N : Nat} {A : Fa} {b : Act} {fp : Nat → Fp} {w : World} {o : Oper} (hR : ∀ i ∈ o.looksAt ops, R N A i b fp w) {xs : List Operand} (hx : ∀ x ∈ xs, x ∈ o.op.operands) :
    xs.map b.eval = xs.map fun x => match x with | .tmp t => (match A.κ t with | some _ => b.tmps.getD t undef | none => A.a.tmps.getD t undef) | y => A.a.eval y := by
  refine List.map_congr_left fun x hxx => ?_
  cases x with
  | tmp t =>
    simp only
    cases hk : A.κ t with
    | none => exact (hR t (looks_op (hx _ hxx))).none_ hk
    | some K => rfl
  | const v => rfl
  | global g => rfl
  | func f => rfl
section
variable {P : Program} {ops : Array Oper} {w0 : World} {Q : Fa → Prop} {A : Fa} {o : Oper} {rest : List Oper}
theorem wpK_nil (h : Q A) : wpK P ops w0 Q [] A := h
theorem wpK_of_loose {e : Ef} (hg : o.guard = none) (h : loose P ops w0 o A e) (hK : wpK P ops w0 Q rest (A.put o.dst e)) : wpK P ops w0 Q (o :: rest) A := by
  unfold wpK
  rw [if_pos (Lo.wanted_none hg _)]
  exact ⟨e, h, hK⟩
/-- an operation that looks at known slots alone, and leaves the world -/
theorem wpK_quiet (hg : o.guard = none) (ho : avoidK A o = true) (hp : pureOp o = true) (h : ∀ K : Act → Prop, (∀ a, wpK P ops w0 Q rest ⟨a, k1 A o.dst (.v undef)⟩ → K a) → o.quiet P A.a (fun v => w0.Since w0.heap.size v) K) : wpK P ops w0 Q (o :: rest) A := by
  obtain ⟨v, h1, h2⟩ := h (fun a => wpK P ops w0 Q rest ⟨a, k1 A o.dst (.v undef)⟩) (fun _ h => h)
  refine wpK_of_loose (e := ev v) hg ⟨fun q hq => (by cases hq), fun b fp w hw hN _ hR => ?_⟩ h2
  rw [eval_avoidK hR ho]
  have h3 := h1 w hw
  unfold Oper.quietAt at h3
  generalize hr : (execOp A.a.eval o).run P w = r at h3
  cases r with
  | ok n w2 =>
    cases n <;> simp only [Oper.quietUpon] at h3 <;> simp only [upon]
    case value u => obtain ⟨rfl, rfl⟩ := h3; exact ⟨rfl, World.Since.refl _ _⟩
    case skip => obtain ⟨rfl, rfl⟩ := h3; exact ⟨rfl, World.Since.refl _ _⟩
    case enter f args => exact absurd hr (fun h => pure_no_enter hp h)
  | halt x w2 => simp only [Oper.quietUpon] at h3
/-- an operation whose run is told -/
theorem wpK_told (hg : o.guard = none) (ho : avoidK A o = true) (v : Value) (hrun : ∀ w, w0.Since w0.heap.size w → w0.heap.size ≤ w.heap.size → ∃ w', (execOp A.a.eval o).run P w = .ok (.value v) w' ∧ w.Since w.heap.size w') (hK : wpK P ops w0 Q rest (A.put o.dst (ev v))) : wpK P ops w0 Q (o :: rest) A := by
  refine wpK_of_loose (e := ev v) hg ⟨fun q hq => (by cases hq), fun b fp w hw hN _ hR => ?_⟩ hK
  rw [eval_avoidK hR ho]
  obtain ⟨w', e, hs⟩ := hrun w hw hN
  rw [e]
  exact ⟨rfl, hs⟩
/-- a slot that is known by its properties alone, moved -/
theorem wpK_copy (hg : o.guard = none) (s : Nat) (hop : o.op = .move (.tmp s) ∨ o.op = .assign (.tmp s)) (K : Kd) (hk : A.κ s = some K) (hb : K.bx = false) (hK : wpK P ops w0 Q rest (A.put o.dst ⟨.k K, none⟩)) : wpK P ops w0 Q (o :: rest) A := by
  refine wpK_of_loose (e := ⟨.k K, none⟩) hg ⟨fun q hq => (by cases hq), fun b fp w hw hN _ hR => ?_⟩ hK
  have hm : s ∈ o.looksAt ops := looks_op (by rcases hop with h | h <;> rw [h] <;> simp [Op.operands])
  have h := (hR s hm).some_ hk
  have e : (execOp b.eval o).run P w = .ok (.value (b.tmps.getD s undef)) w := by
    rcases hop with h | h
    · exact BigFrame.run_move (.tmp s) h w
    · exact BigFrame.run_assign (.tmp s) h w
  rw [e]
  exact ⟨⟨h.2.1, fp s, h.2.2.1, (fun h2 => by rw [hb] at h2; cases h2), fun g hg => ⟨h.2.2.2.1 g hg, .inr (.inr ⟨s, K, hm, hk, hb, hg⟩)⟩⟩, World.Since.refl _ _⟩
theorem run_extract {ρ : Operand → Value} {s ix : Nat} (hop : o.op = .extract (.tmp s) ix) {vs : Array Value} {z : Value} (hv : ρ (.tmp s) = .tuple vs) (hz : vs[ix]? = some z) (w : World) : (execOp ρ o).run P w = .ok (.value z) w := by
  simp [execOp, hop, hv, Instr.extract, hz, Result.andThen]
theorem wpK_extract (hg : o.guard = none) (s ix : Nat) (hop : o.op = .extract (.tmp s) ix) (K K2 : Kd) (hk : A.κ s = some K) (hb : K.bx = false) (hb2 : K2.bx = false) (hex : ∀ u S w, K.p u S w → ∃ vs z, u = .tuple vs ∧ vs[ix]? = some z ∧ nb z ∧ K2.p z S w)
    (hK : wpK P ops w0 Q rest (A.put o.dst ⟨.k K2, none⟩)) : wpK P ops w0 Q (o :: rest) A := by
  refine wpK_of_loose (e := ⟨.k K2, none⟩) hg ⟨fun q hq => (by cases hq), fun b fp w hw hN _ hR => ?_⟩ hK
  have hm : s ∈ o.looksAt ops := looks_op (by rw [hop]; simp [Op.operands])
  have h := (hR s hm).some_ hk
  obtain ⟨vs, z, e1, e2, hz, h2⟩ := hex _ _ _ h.2.2.1
  rw [run_extract (P := P) (ρ := b.eval) hop e1 e2 w]
  exact ⟨⟨hz, fp s, h2, (fun h2 => by rw [hb2] at h2; cases h2), fun g hg => ⟨h.2.2.2.1 g hg, .inr (.inr ⟨s, K, hm, hk, hb, hg⟩)⟩⟩, World.Since.refl _ _⟩
theorem wpK_extractV (hg : o.guard = none) (s ix : Nat) (hop : o.op = .extract (.tmp s) ix) (K : Kd) (hk : A.κ s = some K) (z : Value) (hex : ∀ u S w, K.p u S w → ∃ vs, u = .tuple vs ∧ vs[ix]? = some z)
    (hK : wpK P ops w0 Q rest (A.put o.dst (ev z))) : wpK P ops w0 Q (o :: rest) A := by
  refine wpK_of_loose (e := ev z) hg ⟨fun q hq => (by cases hq), fun b fp w hw hN _ hR => ?_⟩ hK
  have hm : s ∈ o.looksAt ops := looks_op (by rw [hop]; simp [Op.operands])
  have h := (hR s hm).some_ hk
  obtain ⟨vs, e1, e2⟩ := hex _ _ _ h.2.2.1
  rw [run_extract (P := P) (ρ := b.eval) hop e1 e2 w]
  exact ⟨rfl, World.Since.refl _ _⟩
theorem run_enter {ρ : Operand → Value} {f : FuncId} {xs : List Operand} {tys : Array TypeId} (hop : o.op = Op.call ⟨.value (.func f), xs.toArray, tys⟩) (hf : ρ (.func f) = .func (.func f) #[] #[]) (henter : ∀ args w2, (callFunc f args).run P w2 = .ok (.enter f args) w2) (w : World) : (execOp ρ o).run P w = .ok (.enter f (xs.map ρ).toArray) w := by
  simp [execOp, hop, resolve, hf, invoke, Deferred.ofValue, henter, Result.andThen]
/-- a call whose result is known by its properties -/
theorem wpK_call (hg : o.guard = none) (f : FuncId) (xs : List Operand) (tys : Array TypeId) (hop : o.op = Op.call ⟨.value (.func f), xs.toArray, tys⟩) (henter : ∀ args w2, (callFunc f args).run P w2 = .ok (.enter f args) w2) (K : Kd) (hb : K.bx = false)
    (hc : ∀ b fp w, w0.Since w0.heap.size w → w0.heap.size ≤ w.heap.size → (∀ i ∈ o.looksAt ops, R w0.heap.size A i b fp w) → Calls P f (xs.map b.eval).toArray w fun e2 w2 => ∃ u S, e2 = .returned u ∧ nb u ∧ K.p u S w2 ∧ w.Since w.heap.size w2 ∧ ∀ g, S g → w.heap.size ≤ g ∧ g < w2.heap.size)
    (hK : wpK P ops w0 Q rest (A.put o.dst ⟨.k K, none⟩)) : wpK P ops w0 Q (o :: rest) A := by
  refine wpK_of_loose (e := ⟨.k K, none⟩) hg ⟨fun q hq => (by cases hq), fun b fp w hw hN _ hR => ?_⟩ hK
  rw [run_enter (P := P) hop rfl henter w]
  exact (hc b fp w hw hN hR).mono fun e2 w2 ⟨u, S, he, h1, h2, h3, h4⟩ => ⟨u, he, ⟨h1, S, h2, (fun h => by rw [hb] at h; cases h), fun g hg => ⟨(h4 g hg).2, .inl (h4 g hg).1⟩⟩, h3⟩
/-- a call with one known result -/
theorem wpK_callV (hg : o.guard = none) (f : FuncId) (xs : List Operand) (tys : Array TypeId) (hop : o.op = Op.call ⟨.value (.func f), xs.toArray, tys⟩) (henter : ∀ args w2, (callFunc f args).run P w2 = .ok (.enter f args) w2) (z : Value)
    (hc : ∀ b fp w, w0.Since w0.heap.size w → w0.heap.size ≤ w.heap.size → (∀ i ∈ o.looksAt ops, R w0.heap.size A i b fp w) → Calls P f (xs.map b.eval).toArray w fun e2 w2 => e2 = .returned z ∧ w.Since w.heap.size w2)
    (hK : wpK P ops w0 Q rest (A.put o.dst (ev z))) : wpK P ops w0 Q (o :: rest) A := by
  refine wpK_of_loose (e := ev z) hg ⟨fun q hq => (by cases hq), fun b fp w hw hN _ hR => ?_⟩ hK
  rw [run_enter (P := P) hop rfl henter w]
  exact (hc b fp w hw hN hR).mono fun e2 w2 ⟨he, h3⟩ => ⟨z, he, rfl, h3⟩
/-- a box of the statement's own -/
def bxP (T : TypeId) (Pc : List Value → Prop) (u : Value) (S : Fp) (w : World) : Prop := ∃ (g : Nat) (cs : List Value), u = .pointer (some ⟨g, 0, none⟩) ∧ (∀ k, S k ↔ k = g) ∧ w.heap[g]? = some (.cells cs.toArray T (0, 0)) ∧ Pc cs
def bxK (T : TypeId) (Pc : List Value → Prop) : Kd where
  p := bxP T Pc
  stable := fun u S w w' h hp => by
    obtain ⟨g, cs, e, hS, hb, hc⟩ := hp
    exact ⟨g, cs, e, hS, (h g ((hS g).2 rfl)).trans hb, hc⟩
  bx := true
theorem wpK_alloc (hg : o.guard = none) (elem : TypeId) (hop : o.op = .alloc elem) (T : TypeId) (cs : List Value) (hrun : ∀ w : World, (Instr.alloc elem true (.tuple #[])).run P w = .ok (.pointer (some ⟨w.heap.size, 0, none⟩)) (w.alloc (.cells cs.toArray T)))
    (hK : wpK P ops w0 Q rest (A.put o.dst ⟨.k (bxK T (· = cs)), none⟩)) : wpK P ops w0 Q (o :: rest) A := by
  refine wpK_of_loose (e := ⟨.k (bxK T (· = cs)), none⟩) hg ⟨fun q hq => (by cases hq), fun b fp w hw hN _ hR => ?_⟩ hK
  have e : (execOp b.eval o).run P w = .ok (.value (.pointer (some ⟨w.heap.size, 0, none⟩))) (w.alloc (.cells cs.toArray T)) := by
    simp [execOp, hop, hrun, Result.andThen]
  rw [e]
  refine ⟨⟨trivial, fun k => k = w.heap.size, ⟨_, cs, rfl, fun k => Iff.rfl, Go.Deep.blk_alloc_new _ _, rfl⟩, fun _ g hg => by rw [hg]; exact Nat.le_refl _, fun g hg => ?_⟩, (World.Since.refl _ _).alloc (Nat.le_refl _) _⟩
  have hg' : g = w.heap.size := hg
  subst hg'
  exact ⟨by simp, .inl (Nat.le_refl _)⟩
theorem setCells_size (g : Nat) : ∀ (vs : List Value) (o : Nat) (w : World), (w.setCells g o vs).heap.size = w.heap.size
  | [], _, _ => rfl
  | v :: r, o, w => by rw [World.setCells, setCells_size g r]; exact Go.Deep.nblk_setCell _ _ _
theorem setCells_other (g : Nat) : ∀ (vs : List Value) (o : Nat) (w : World) (k : Nat), k ≠ g → (w.setCells g o vs).heap[k]? = w.heap[k]?
  | [], _, _, _, _ => rfl
  | v :: r, o, w, k, hk => by rw [World.setCells, setCells_other g r _ _ k hk]; exact Go.Deep.blk_setCell_other _ _ _ _ hk
theorem setCells_since {N g : Nat} (hg : N ≤ g) : ∀ (vs : List Value) (o : Nat) (w : World), w.Since N (w.setCells g o vs)
  | [], _, _ => World.Since.refl _ _
  | v :: r, o, w => ((World.Since.refl _ _).setCell hg _).trans (setCells_since hg r _ _)
theorem setCells_blk {T : TypeId} {g : Nat} : ∀ (vs : List Value) (o : Nat) (w : World) (cs : Array Value), w.heap[g]? = some (.cells cs T (0, 0)) → o + vs.length ≤ cs.size →
    ∃ cs', (w.setCells g o vs).heap[g]? = some (.cells cs' T (0, 0)) ∧ cs'.size = cs.size ∧ (∀ j, j < o → cs'[j]? = cs[j]?) ∧ ∀ j, j < vs.length → cs'[o + j]? = vs[j]?
  | [], _, _, cs, h, _ => ⟨cs, h, rfl, fun _ _ => rfl, fun j hj => by simp at hj⟩
  | v :: r, o, w, cs, h, hl => by
    have h1 : (w.setCell ⟨g, o, none⟩ v).heap[g]? = some (.cells (cs.setIfInBounds o v) T (0, 0)) := by simp [World.setCell, Array.getElem?_modify, h]
    obtain ⟨cs', e1, e2, e3, e4⟩ := setCells_blk r (o + 1) _ _ h1 (by simp only [List.length_cons] at hl; simp; omega)
    refine ⟨cs', e1, by rw [e2]; simp, fun j hj => ?_, fun j hj => ?_⟩
    · rw [e3 j (by omega), Array.getElem?_setIfInBounds_ne (by omega)]
    · cases j with
      | zero =>
        rw [Nat.add_zero, e3 o (by omega)]
        simp only [List.length_cons] at hl
        rw [Array.getElem?_setIfInBounds_self_of_lt (by omega)]
        rfl
      | succ j =>
        have := e4 j (by simp only [List.length_cons] at hj; omega)
        rw [show o + (j + 1) = o + 1 + j by omega, this]
        rfl
theorem setCells_whole {T : TypeId} {g : Nat} {vs cs : List Value} {w : World} (h : w.heap[g]? = some (.cells cs.toArray T (0, 0))) (hl : vs.length = cs.length) : (w.setCells g 0 vs).heap[g]? = some (.cells vs.toArray T (0, 0)) := by
  obtain ⟨cs', e1, e2, e3, e4⟩ := setCells_blk vs 0 w cs.toArray h (by simp; omega)
  rw [e1]
  congr 2
  apply Array.ext_getElem?
  intro i
  by_cases hi : i < vs.length
  · have := e4 i hi
    rw [Nat.zero_add] at this
    rw [this]; simp
  · rw [Array.getElem?_eq_none (by rw [e2]; simp; omega), Array.getElem?_eq_none (by simp; omega)]
theorem wpK_store (hg : o.guard = none) (ty : TypeId) (p : Nat) (y : Operand) (hop : o.op = .store ty (.tmp p) y) (hd : o.dst = none) (T : TypeId) (Pc Pc' : List Value → Prop) (hk : A.κ p = some (bxK T Pc)) (n : Nat) (hn : ∀ cs, Pc cs → cs.length = n) (hi : (P.info? ty).map (·.size) = some n)
    (hy : ∀ b fp w, w0.Since w0.heap.size w → w0.heap.size ≤ w.heap.size → (∀ i ∈ o.looksAt ops, R w0.heap.size A i b fp w) → ∃ cs : List Value, b.eval y = .agg cs.toArray ∧ cs.length = n ∧ Pc' cs ∧ cs.toArray.all (·.oneCell') = true)
    (hK : wpK P ops w0 Q rest (A.put o.dst ⟨.v undef, some (p, bxK T Pc')⟩)) : wpK P ops w0 Q (o :: rest) A := by
  refine wpK_of_loose (e := ⟨.v undef, some (p, bxK T Pc')⟩) hg ⟨fun q hq => ?_, fun b fp w hw hN _ hR => ?_⟩ hK
  · injection hq with hq
    subst hq
    exact ⟨hd, by unfold stOf; rw [hop]⟩
  · have hm : p ∈ o.looksAt ops := looks_op (by rw [hop]; simp [Op.operands])
    have h := (hR p hm).some_ hk
    obtain ⟨g, cs, e1, hS, hb, hc⟩ := h.2.2.1
    obtain ⟨cs', e2, hl, hc', h1⟩ := hy b fp w hw hN hR
    have hl2 : cs'.length = cs.length := by rw [hl, hn cs hc]
    have ht : w.there g 0 cs'.toArray.size := fun j hj => by
      have hj2 : j < cs.length := by rw [← hl2]; simpa using hj
      rw [Nat.zero_add]
      exact ⟨by simp [World.cell?, hb, hj2], by simp [World.frozen?, hb]⟩
    have er := run_storeAt_mid (P := P) w g 0 ty cs'.toArray ht (by rw [hi]; simp [hl]) h1
    have ex : (execOp b.eval o).run P w = .ok .skip (w.setCells g 0 cs') := by
      have e1' : b.eval (.tmp p) = .pointer (some ⟨g, 0, none⟩) := e1
      simp [execOp, hop, e1', e2, er, Result.andThen]
    have hNg := h.2.2.2.2 rfl g ((hS g).2 rfl)
    rw [ex]
    refine ⟨rfl, setCells_since hNg _ _ _, setCells_size _ _ _ _, ⟨_, hk, rfl⟩, rfl, ⟨g, cs', e1, hS, setCells_whole hb hl2, hc'⟩, fun k hk => setCells_other g _ _ _ k fun e => hk ((hS k).2 e)⟩
end
/-! ### the steps, the frame and what is known apart -/
section
variable {P : Program} {ops : Array Oper} {w0 : World} {Q : Fa → Prop} {a : Act} {κ : Nat → Option Kd} {o : Oper} {rest : List Oper} {d : Nat}
theorem put_some {x : Va} (hs : d < a.tmps.size) : (Fa.mk a κ).put (some d) ⟨x, none⟩ = ⟨a.put (some d) x.val, upd κ d x.kd⟩ := by
  simp [Fa.put, k2, k1, hs]
theorem upd_none (hk : κ d = none) : upd κ d none = κ := by
  funext i
  unfold upd
  by_cases e : i = d
  · subst e; rw [if_pos rfl, hk]
  · rw [if_neg e]
theorem k1_known (hk : κ d = none) (x : Value) : k1 ⟨a, κ⟩ (some d) (.v x) = κ := by
  simp only [k1, Va.kd]
  split
  · exact upd_none hk
  · rfl
theorem put_known {u : Value} (hk : κ d = none) : (Fa.mk a κ).put (some d) (ev u) = ⟨a.put (some d) u, κ⟩ := by
  simp [Fa.put, k2, k1_known hk, ev, Va.val]
theorem sQuiet (hg : o.guard = none) (hd : o.dst = some d) (hk : κ d = none) (ho : avoidK ⟨a, κ⟩ o = true) (hp : pureOp o = true) (h : ∀ K : Act → Prop, (∀ a, wpK P ops w0 Q rest ⟨a, κ⟩ → K a) → o.quiet P a (fun v => w0.Since w0.heap.size v) K) : wpK P ops w0 Q (o :: rest) ⟨a, κ⟩ :=
  wpK_quiet hg ho hp fun K hK => h K fun a' ha => hK a' (by rw [hd, k1_known hk]; exact ha)
theorem sMove (hg : o.guard = none) (hd : o.dst = some d) (hk : κ d = none) (ho : avoidK ⟨a, κ⟩ o = true) (x : Operand) (hop : o.op = .move x ∨ o.op = .assign x) (hK : wpK P ops w0 Q rest ⟨a.put (some d) (a.eval x), κ⟩) : wpK P ops w0 Q (o :: rest) ⟨a, κ⟩ :=
  wpK_told hg ho (a.eval x) (fun w _ _ => ⟨w, by
    rcases hop with h | h
    · exact BigFrame.run_move x h w
    · exact BigFrame.run_assign x h w, World.Since.refl _ _⟩) (by rw [hd, put_known hk]; exact hK)
theorem sTold (hg : o.guard = none) (hd : o.dst = some d) (hk : κ d = none) (ho : avoidK ⟨a, κ⟩ o = true) (v : Value) (hrun : ∀ w, w0.Since w0.heap.size w → w0.heap.size ≤ w.heap.size → ∃ w', (execOp a.eval o).run P w = .ok (.value v) w' ∧ w.Since w.heap.size w') (hK : wpK P ops w0 Q rest ⟨a.put (some d) v, κ⟩) : wpK P ops w0 Q (o :: rest) ⟨a, κ⟩ :=
  wpK_told hg ho v hrun (by rw [hd, put_known hk]; exact hK)
/-- a struct is loaded from the law's box -/
theorem sRow (hg : o.guard = none) (hd : o.dst = some d) (hk : κ d = none) (ho : avoidK ⟨a, κ⟩ o = true) (ty : TypeId) (x : Operand) (hop : o.op = .load ty x) (b off : Nat) (hx : a.eval x = .pointer (some ⟨b, off, none⟩)) (cs : List Value) (ds : TypeDesc)
    (hu : P.underlying ty = some ds) (hr : ds.isRow = true) (hi : (P.info? ty).map (·.size) = some cs.length) (hS : ∀ v, w0.Since w0.heap.size v → v.rangeAt b off cs)
    (hK : wpK P ops w0 Q rest ⟨a.put (some d) (.agg cs.toArray), κ⟩) : wpK P ops w0 Q (o :: rest) ⟨a, κ⟩ :=
  sTold hg hd hk ho _ (fun w hw _ => ⟨w, by
    unfold execOp
    simp only [hop, hx, Instr.loadAt, Instr.sureAddr, Sem.run_bind, Sem.run_pure, Result.andThen_ok, Go.run_loadVar_mid w b off ty cs ds (hS w hw) hu hr hi], World.Since.refl _ _⟩) hK
theorem sCopy (hg : o.guard = none) (hd : o.dst = some d) (hs : d < a.tmps.size) (s : Nat) (hop : o.op = .move (.tmp s) ∨ o.op = .assign (.tmp s)) (K : Kd) (hk : κ s = some K) (hb : K.bx = false) (hK : wpK P ops w0 Q rest ⟨a.put (some d) undef, upd κ d (some K)⟩) : wpK P ops w0 Q (o :: rest) ⟨a, κ⟩ :=
  wpK_copy hg s hop K hk hb (by rw [hd, put_some hs]; exact hK)
theorem sExtract (hg : o.guard = none) (hd : o.dst = some d) (hs : d < a.tmps.size) (s ix : Nat) (hop : o.op = .extract (.tmp s) ix) (K K2 : Kd) (hk : κ s = some K) (hb : K.bx = false) (hb2 : K2.bx = false) (hex : ∀ u S w, K.p u S w → ∃ vs z, u = .tuple vs ∧ vs[ix]? = some z ∧ nb z ∧ K2.p z S w)
    (hK : wpK P ops w0 Q rest ⟨a.put (some d) undef, upd κ d (some K2)⟩) : wpK P ops w0 Q (o :: rest) ⟨a, κ⟩ :=
  wpK_extract hg s ix hop K K2 hk hb hb2 hex (by rw [hd, put_some hs]; exact hK)
theorem sExtractV (hg : o.guard = none) (hd : o.dst = some d) (hkd : κ d = none) (s ix : Nat) (hop : o.op = .extract (.tmp s) ix) (K : Kd) (hk : κ s = some K) (z : Value) (hex : ∀ u S w, K.p u S w → ∃ vs, u = .tuple vs ∧ vs[ix]? = some z)
    (hK : wpK P ops w0 Q rest ⟨a.put (some d) z, κ⟩) : wpK P ops w0 Q (o :: rest) ⟨a, κ⟩ :=
  wpK_extractV hg s ix hop K hk z hex (by rw [hd, put_known hkd]; exact hK)
theorem sCall (hg : o.guard = none) (hd : o.dst = some d) (hs : d < a.tmps.size) (f : FuncId) (xs : List Operand) (tys : Array TypeId) (hop : o.op = Op.call ⟨.value (.func f), xs.toArray, tys⟩) (henter : ∀ args w2, (callFunc f args).run P w2 = .ok (.enter f args) w2) (K : Kd) (hb : K.bx = false)
    (hc : ∀ b fp w, w0.Since w0.heap.size w → w0.heap.size ≤ w.heap.size → (∀ i ∈ o.looksAt ops, R w0.heap.size ⟨a, κ⟩ i b fp w) → Calls P f (xs.map b.eval).toArray w fun e2 w2 => ∃ u S, e2 = .returned u ∧ nb u ∧ K.p u S w2 ∧ w.Since w.heap.size w2 ∧ ∀ g, S g → w.heap.size ≤ g ∧ g < w2.heap.size)
    (hK : wpK P ops w0 Q rest ⟨a.put (some d) undef, upd κ d (some K)⟩) : wpK P ops w0 Q (o :: rest) ⟨a, κ⟩ :=
  wpK_call hg f xs tys hop henter K hb hc (by rw [hd, put_some hs]; exact hK)
theorem mem_call {f : Operand} {xs : List Operand} {tys : Array TypeId} (hop : o.op = Op.call ⟨.value f, xs.toArray, tys⟩) : ∀ x ∈ xs, x ∈ o.op.operands := fun x hx => by
  rw [hop]
  simp [Op.operands, Call.operands, hx]
/-- a call of known arguments -/
theorem sCallK (hg : o.guard = none) (hd : o.dst = some d) (hs : d < a.tmps.size) (f : FuncId) (xs : List Operand) (tys : Array TypeId) (hop : o.op = Op.call ⟨.value (.func f), xs.toArray, tys⟩) (henter : ∀ args w2, (callFunc f args).run P w2 = .ok (.enter f args) w2) (ho : avoidK ⟨a, κ⟩ o = true) (vs : List Value) (hvs : xs.map a.eval = vs) (K : Kd) (hb : K.bx = false)
    (hc : ∀ w, w0.Since w0.heap.size w → w0.heap.size ≤ w.heap.size → Calls P f vs.toArray w fun e2 w2 => ∃ u S, e2 = .returned u ∧ nb u ∧ K.p u S w2 ∧ w.Since w.heap.size w2 ∧ ∀ g, S g → w.heap.size ≤ g ∧ g < w2.heap.size)
    (hK : wpK P ops w0 Q rest ⟨a.put (some d) undef, upd κ d (some K)⟩) : wpK P ops w0 Q (o :: rest) ⟨a, κ⟩ :=
  sCall hg hd hs f xs tys hop henter K hb (fun b fp w hw hN hR => by
    have e : xs.map b.eval = vs := by
      rw [← hvs]
      refine List.map_congr_left fun x hx => ?_
      unfold avoidK at ho
      rw [Bool.and_eq_true] at ho
      have h1 := List.all_eq_true.1 ho.1 x (by simpa using mem_call hop x hx)
      cases x with
      | tmp t =>
        simp only at h1
        exact (hR t (looks_op (mem_call hop _ hx))).none_ (by simpa using h1)
      | const v => rfl
      | global g => rfl
      | func f => rfl
    rw [e]
    exact hc w hw hN) hK
/-- a call of known arguments with one known value -/
theorem sCallV (hg : o.guard = none) (hd : o.dst = some d) (hk : κ d = none) (f : FuncId) (xs : List Operand) (tys : Array TypeId) (hop : o.op = Op.call ⟨.value (.func f), xs.toArray, tys⟩) (henter : ∀ args w2, (callFunc f args).run P w2 = .ok (.enter f args) w2) (ho : avoidK ⟨a, κ⟩ o = true) (vs : List Value) (hvs : xs.map a.eval = vs) (z : Value)
    (hc : ∀ w, w0.Since w0.heap.size w → w0.heap.size ≤ w.heap.size → Calls P f vs.toArray w fun e2 w2 => e2 = .returned z ∧ w.Since w.heap.size w2)
    (hK : wpK P ops w0 Q rest ⟨a.put (some d) z, κ⟩) : wpK P ops w0 Q (o :: rest) ⟨a, κ⟩ :=
  wpK_callV hg f xs tys hop henter z (fun b fp w hw hN hR => by
    have e : xs.map b.eval = vs := by
      rw [← hvs]
      refine List.map_congr_left fun x hx => ?_
      unfold avoidK at ho
      rw [Bool.and_eq_true] at ho
      have h1 := List.all_eq_true.1 ho.1 x (by simpa using mem_call hop x hx)
      cases x with
      | tmp t =>
        simp only at h1
        exact (hR t (looks_op (mem_call hop _ hx))).none_ (by simpa using h1)
      | const v => rfl
      | global g => rfl
      | func f => rfl
    rw [e]
    exact hc w hw hN) (by rw [hd, put_known hk]; exact hK)
/-- a call, one of whose arguments is known by its properties -/
theorem sCall1 (hg : o.guard = none) (hd : o.dst = some d) (hs : d < a.tmps.size) (f : FuncId) (xs : List Operand) (tys : Array TypeId) (hop : o.op = Op.call ⟨.value (.func f), xs.toArray, tys⟩) (henter : ∀ args w2, (callFunc f args).run P w2 = .ok (.enter f args) w2) (s : Nat) (hin : (.tmp s : Operand) ∈ xs) (K0 : Kd) (hks : κ s = some K0) (V : Value → List Value)
    (hV : ∀ b : Act, (xs.map fun x => match x with | .tmp t => (match κ t with | some _ => b.tmps.getD t undef | none => a.tmps.getD t undef) | y => a.eval y) = V (b.tmps.getD s undef)) (K : Kd) (hb : K.bx = false)
    (hc : ∀ u S w, w0.Since w0.heap.size w → w0.heap.size ≤ w.heap.size → K0.p u S w → Calls P f (V u).toArray w fun e2 w2 => ∃ u S, e2 = .returned u ∧ nb u ∧ K.p u S w2 ∧ w.Since w.heap.size w2 ∧ ∀ g, S g → w.heap.size ≤ g ∧ g < w2.heap.size)
    (hK : wpK P ops w0 Q rest ⟨a.put (some d) undef, upd κ d (some K)⟩) : wpK P ops w0 Q (o :: rest) ⟨a, κ⟩ :=
  sCall hg hd hs f xs tys hop henter K hb (fun b fp w hw hN hR => by
    have e := args_eq hR (mem_call hop)
    rw [e]
    have h := (hR s (looks_op (mem_call hop _ hin))).some_ hks
    have := hc _ _ w hw hN h.2.2.1
    rw [← hV b] at this
    exact this) hK
theorem sAlloc (hg : o.guard = none) (hd : o.dst = some d) (hs : d < a.tmps.size) (elem : TypeId) (hop : o.op = .alloc elem) (T : TypeId) (cs : List Value) (hrun : ∀ w : World, (Instr.alloc elem true (.tuple #[])).run P w = .ok (.pointer (some ⟨w.heap.size, 0, none⟩)) (w.alloc (.cells cs.toArray T)))
    (hK : wpK P ops w0 Q rest ⟨a.put (some d) undef, upd κ d (some (bxK T (· = cs)))⟩) : wpK P ops w0 Q (o :: rest) ⟨a, κ⟩ :=
  wpK_alloc hg elem hop T cs hrun (by rw [hd, put_some hs]; exact hK)
/-- a known struct is stored into a box of the statement's own -/
theorem sStore (hg : o.guard = none) (ty : TypeId) (p : Nat) (y : Operand) (hop : o.op = .store ty (.tmp p) y) (hd : o.dst = none) (T : TypeId) (Pc : List Value → Prop) (hk : κ p = some (bxK T Pc)) (n : Nat) (hn : ∀ cs, Pc cs → cs.length = n) (hi : (P.info? ty).map (·.size) = some n)
    (ho : avoidK ⟨a, fun i => if i = p then none else κ i⟩ o = true) (cs : List Value) (hy : a.eval y = .agg cs.toArray) (hyp : y ≠ .tmp p) (hl : cs.length = n) (h1 : cs.toArray.all (·.oneCell') = true)
    (hK : wpK P ops w0 Q rest ⟨a, upd κ p (some (bxK T (· = cs)))⟩) : wpK P ops w0 Q (o :: rest) ⟨a, κ⟩ :=
  wpK_store hg ty p y hop hd T Pc (· = cs) hk n hn hi (fun b fp w hw hN hR => ⟨cs, by
    rw [← hy]
    unfold avoidK at ho
    rw [Bool.and_eq_true] at ho
    cases y with
    | tmp t =>
      have h1 := List.all_eq_true.1 ho.1 (.tmp t) (by rw [hop]; simp [Op.operands])
      have hne : t ≠ p := fun e => hyp (by rw [e])
      simp only [if_neg hne] at h1
      exact (hR t (looks_op (by rw [hop]; simp [Op.operands]))).none_ (by simpa using h1)
    | const v => rfl
    | global g => rfl
    | func f => rfl, hl, rfl, h1⟩) (by rw [hd]; simpa [Fa.put, Act.put, k2, k1] using hK)
/-- a struct known by its properties is stored into a box of the statement's own -/
theorem sStoreK (hg : o.guard = none) (ty : TypeId) (p s : Nat) (hop : o.op = .store ty (.tmp p) (.tmp s)) (hd : o.dst = none) (T : TypeId) (Pc Pc' : List Value → Prop) (hk : κ p = some (bxK T Pc)) (K : Kd) (hks : κ s = some K) (n : Nat) (hn : ∀ cs, Pc cs → cs.length = n) (hi : (P.info? ty).map (·.size) = some n)
    (hy : ∀ u S w, K.p u S w → ∃ cs : List Value, u = .agg cs.toArray ∧ cs.length = n ∧ Pc' cs ∧ cs.toArray.all (·.oneCell') = true)
    (hK : wpK P ops w0 Q rest ⟨a, upd κ p (some (bxK T Pc'))⟩) : wpK P ops w0 Q (o :: rest) ⟨a, κ⟩ :=
  wpK_store hg ty p (.tmp s) hop hd T Pc Pc' hk n hn hi (fun b fp w hw hN hR => hy _ _ _ ((hR s (looks_op (by rw [hop]; simp [Op.operands]))).some_ hks).2.2.1) (by rw [hd]; simpa [Fa.put, Act.put, k2, k1] using hK)
end
/-! ### the end -/
theorem After.slot {w0 : World} {A : Fa} {Rr : Act → (Nat → Fp) → World → Prop} (d : Nat) (K : Kd) (hk : A.κ d = some K)
    (h : ∀ u, nb u → After w0 ⟨A.a.put (some d) u, upd A.κ d none⟩ fun b fp w => K.p u (fp d) w → (∀ g, fp d g → g < w.heap.size) → (K.bx = true → ∀ g, fp d g → w0.heap.size ≤ g) → Rr b fp w) : After w0 A Rr := by
  intro b fp w hw hN hab
  have hd := (hab.2.2.1 d).some_ hk
  refine h (b.tmps.getD d undef) hd.2.1 b fp w hw hN ⟨hab.1, by rw [put_size]; exact hab.2.1, fun i => ?_, fun i j K1 K2 hij hi hj hb => ?_⟩ hd.2.2.1 hd.2.2.2.1 hd.2.2.2.2
  · by_cases e : i = d
    · subst e
      refine R_of_none (by simp [upd]) ?_
      show _ = (A.a.tmps.setIfInBounds i (b.tmps.getD i undef)).getD i undef
      rw [Lo.getD_put]
      by_cases hs : i < A.a.tmps.size
      · rw [if_pos ⟨rfl, hs⟩]
      · rw [if_neg (fun h => hs h.2)]
        have e1 : A.a.tmps.getD i undef = undef := by simp [Array.getD_eq_getD_getElem?, Array.getElem?_eq_none (Nat.le_of_not_lt hs)]
        have e2 : b.tmps.getD i undef = undef := by
          have h2 := hab.2.1
          simp [Array.getD_eq_getD_getElem?, Array.getElem?_eq_none (show b.tmps.size ≤ i by rw [h2]; exact Nat.le_of_not_lt hs)]
        rw [e1, e2]
    · have hki : (Fa.mk (A.a.put (some d) (b.tmps.getD d undef)) (upd A.κ d none)).κ i = A.κ i := by simp [upd, e]
      have hv : (A.a.put (some d) (b.tmps.getD d undef)).tmps.getD i undef = A.a.tmps.getD i undef := by
        show (A.a.tmps.setIfInBounds d (b.tmps.getD d undef)).getD i undef = _
        rw [Lo.getD_put, if_neg (fun h => e h.1.symm)]
      have h3 := hab.2.2.1 i
      unfold R at h3 ⊢
      rw [hki]
      simp only [hv]
      exact h3
  · have hi' : i ≠ d ∧ A.κ i = some K1 := by
      by_cases e : i = d
      · subst e; simp [upd] at hi
      · exact ⟨e, by simpa [upd, e] using hi⟩
    have hj' : j ≠ d ∧ A.κ j = some K2 := by
      by_cases e : j = d
      · subst e; simp [upd] at hj
      · exact ⟨e, by simpa [upd, e] using hj⟩
    exact hab.2.2.2 i j K1 K2 hij hi'.2 hj'.2 hb
theorem After.apart {w0 : World} {A : Fa} {Rr : Act → (Nat → Fp) → World → Prop} (i j : Nat) (K K' : Kd) (hi : A.κ i = some K) (hj : A.κ j = some K') (hb : K.bx = true) (hne : i ≠ j)
    (h : After w0 A fun b fp w => (∀ g, fp i g → ¬ fp j g) → Rr b fp w) : After w0 A Rr := fun b fp w hw hN hab => h b fp w hw hN hab (hab.2.2.2 i j K K' hne hi hj hb)
def nbut (ds : List Nat) (κ : Nat → Option Kd) : Prop := ∀ i, i ∉ ds → κ i = none
theorem nbut.start {ds : List Nat} : nbut ds (fun _ => none) := fun _ _ => rfl
theorem nbut.upd {ds : List Nat} {κ : Nat → Option Kd} {d : Nat} {k : Option Kd} (hd : d ∈ ds) (h : nbut ds κ) : nbut ds (Lk.upd κ d k) := fun i hi => by
  have : i ≠ d := fun e => hi (e ▸ hd)
  simp only [Lk.upd, if_neg this]
  exact h i hi
theorem After.end_ {w0 : World} {a : Act} {κ : Nat → Option Kd} {Rr : Act → (Nat → Fp) → World → Prop} (ds : List Nat) (hn : nbut ds κ) (hk : (ds.all fun d => (κ d).isNone) = true) (h : ∀ fp w, w0.Since w0.heap.size w → Rr a fp w) : After w0 ⟨a, κ⟩ Rr := by
  intro b fp w hw hN hab
  obtain ⟨h1, h2, h3, _⟩ := hab
  have hall : ∀ i, κ i = none := fun i => by
    by_cases hi : i ∈ ds
    · have := List.all_eq_true.1 hk i hi
      simpa using this
    · exact hn i hi
  have e : b = a := by
    obtain ⟨bt, bd⟩ := b
    obtain ⟨at_, ad⟩ := a
    simp only at h1 h2 h3
    subst h1
    congr 1
    apply Array.ext h2
    intro i hi1 hi2
    have := (h3 i).none_ (hall i)
    simpa [Array.getD_eq_getD_getElem?, hi1, hi2] using this
  subst e
  exact h fp w hw
end Lk
end Go.Proofs.Ytlddppnaakjamaa

/- What is known of a slot: lists of numbers, boxes. -/
set_option linter.unusedVariables false
set_option linter.unusedSimpArgs false
namespace Go.Proofs.Ytlddppnaakjamaa
open Fl Go.RowKit
namespace Lk
/-- an entry among these blocks, behind lo -/
def EnK (lo : Nat) (e : En) (S : Fp) (w : World) : Prop := e.P w ∧ (∀ w w' : World, (∀ g, e.S g → w'.heap[g]? = w.heap[g]?) → e.P w → e.P w') ∧ (∀ k, e.S k → S k) ∧ ∀ k, e.S k → lo ≤ k
theorem EnK.keep {lo : Nat} {e : En} {S : Fp} {w w' : World} (h : EnK lo e S w) (hs : ∀ g, S g → w'.heap[g]? = w.heap[g]?) : EnK lo e S w' := ⟨h.2.1 w w' (fun g hg => hs g (h.2.2.1 g hg)) h.1, h.2⟩
theorem EnK.of {lo B : Nat} {e : En} {w : World} (h : Ge B w e) (hl : lo ≤ B) : EnK lo e e.S w := ⟨h.1, h.2.1, fun _ h => h, fun k hk => Nat.le_trans hl (h.2.2 k hk).1⟩
theorem EnK.ge {lo : Nat} {e : En} {S : Fp} {w : World} (h : EnK lo e S w) (hb : ∀ g, S g → g < w.heap.size) : Ge lo w e := ⟨h.1, h.2.1, fun g hg => ⟨h.2.2.2 g hg, hb g (h.2.2.1 g hg)⟩⟩
theorem EnK.readF {lo n : Nat} {A : Option Addr} {xs : List Nat} {S : Fp} {w : World} (h : EnK lo (fe A n xs) S w) : Fs w w.heap.size A n xs :=
  ⟨h.1.1.1, h.1.1.2, fun hn => by
    obtain ⟨g, off, cs, e, hb, hc⟩ := h.1.2 hn
    refine ⟨g, off, e, (Array.getElem?_eq_some_iff.1 hb).1, fun k hk => ?_⟩
    simp only [World.cell?, hb]
    simpa using hc k hk⟩
/-- a copy of numbers -/
def xK (lo n : Nat) (xs : List Nat) : Kd where
  p := fun u S w => ∃ B : Nat, u = .slice (some ⟨B, 0, none⟩) n n ∧ EnK lo (fe (some ⟨B, 0, none⟩) n xs) S w
  stable := fun u S w w' h hp => by
    obtain ⟨B, e, hb⟩ := hp
    exact ⟨B, e, hb.keep h⟩
  bx := false
/-- a list of numbers -/
def feK (lo n0 : Nat) (f0 : Nat → O) : Kd where
  p := fun u S w => ∃ (p : Ls) (c : Nat), u = .slice p.A p.n c ∧ p.n = n0 ∧ Are p f0 ∧ EnK lo (fe p.A p.n p.xs) S w
  stable := fun u S w w' h hp => by
    obtain ⟨p, c, e, h1, h2, hb⟩ := hp
    exact ⟨p, c, e, h1, h2, hb.keep h⟩
  bx := false
theorem box_ge {T : TypeId} {Pc : List Value → Prop} {u : Value} {S : Fp} {w : World} {lo : Nat} (h : (bxK T Pc).p u S w) (hb : ∀ g, S g → g < w.heap.size) (hl : ∀ g, S g → lo ≤ g) : ∃ g cs, u = .pointer (some ⟨g, 0, none⟩) ∧ Pc cs ∧ (∀ k, S k ↔ k = g) ∧ Ge lo w (bxv T g cs) := by
  obtain ⟨g, cs, e, hS, hh, hc⟩ := h
  exact ⟨g, cs, e, hc, hS, hh, fun w w' h hp => (h g rfl).trans hp, fun k hk => by
    have hk' : k = g := hk
    subst hk'
    exact ⟨hl k ((hS k).2 rfl), hb k ((hS k).2 rfl)⟩⟩
theorem box_de {T : TypeId} {g : Nat} {cs : List Value} {S S' : Fp} {e : En} {lo : Nat} {w : World} (hS : ∀ k, S k ↔ k = g) (hd : ∀ k, S k → ¬ S' k) (h : EnK lo e S' w) : De (bxv T g cs) e := fun k hk he => hd k ((hS k).2 hk) (h.2.2.1 k he)
end Lk
end Go.Proofs.Ytlddppnaakjamaa

/- Filters: one filter over samples, the model's function, and what fails. -/
set_option linter.unusedVariables false
set_option linter.unusedSimpArgs false
namespace Go.Proofs.Ytlddppnaakjamaa
open Fl Go.RowKit
def PLMB (n0 : Nat) (f0 : Nat → O) (M : Mem) (b : Bool) (w : World) (e : Ending) (w' : World) : Prop :=
  ∃ (p : Ls) (c : Nat) (m : MemN), e = .returned (.tuple #[.slice p.A p.n c, m.val, .bool b]) ∧ p.n = n0 ∧ Gs 22 w' w.heap.size p.A p.n p.xs ∧ Are p f0 ∧ FvM m M ∧ w.Since w.heap.size w'
theorem PLMB.none_ {w w' : World} (s : w.Since w.heap.size w') (f0 : Nat → O) : PLMB 0 f0 noM false w (.returned (.tuple #[.slice none 0 0, .agg #[.float .f32 0, .float .f32 0, .float .f32 0, .float .f32 0], .bool false])) w' :=
  ⟨⟨none, 0, []⟩, 0, ⟨0, 0, 0, 0⟩, rfl, rfl, Gs.nil_, (fun k hk => by simp at hk), noM_fv, s⟩
theorem few_fil (A : Option Addr) (n c : Nat) (b : Bool) (w : World) (h : decide ((n : Int) ≤ 256) = b) : Calls Try.prog 34 #[.slice A n c] w fun e w' => e = .returned (.bool b) ∧ w = w' := by
  subst h
  go_enter Try.func34, Try.ntmps34
  go_wp2
  go_ret
  exact ⟨ret_bool (by simp), rfl⟩
set_option maxHeartbeats 8000000 in
set_option maxRecDepth 100000 in
theorem specRF_ok (form : Nat) (hform : form ≤ 2) (fu : Bool) (f : FilN) (m : MemN) (F : Fil) (M : Mem) (A : Option Addr) (n c : Nat) (xs : List Nat) (w : World) (hF : FvF f F) (hM : FvM m M) (hA : Fs w w.heap.size A n xs) (hn : n ≤ 256) :
    Calls Try.prog 8 #[f.val, .int .i64 (form : Int), .bool fu, m.val, .slice A n c] w (PLMB n (filY form fu F M (fun k => ab .f32 (wd xs k))) (filM form fu F M (fun k => ab .f32 (wd xs k)) n) true w) := by
  have h1 : inB (form : Int) 0 2 = true := by simp only [inB, Bool.and_eq_true, decide_eq_true_eq]; omega
  have h2 : decide ((n : Int) ≤ 256) = true := decide_eq_true (by omega)
  have HR := Lib.hid fun (V : World) (hs : w.Since w.heap.size V) (hg : FilAt V w.heap.size f) => specRun_any form hform fu w.heap.size f m F M A n c xs V hg hF hM ((hA.since hs).more hs.size) hn
  obtain ⟨b0, b1, b2, a1, a2⟩ := f
  obtain ⟨ma, mb, mc, md⟩ := m
  unfold MemN.val at *
  unfold FilN.val
  clear hA
  go_enter Try.func8, Try.ntmps8
  go_wp2_with fail
  generalize hW1 : World.alloc w _ = W1
  generalize hW2 : World.alloc W1 _ = W2
  generalize hW3 : World.alloc W2 _ = W3
  have z1 : W1.heap.size = w.heap.size + 1 := by rw [← hW1]; simp
  have z2 : W2.heap.size = w.heap.size + 1 + 1 := by rw [← hW2]; simp [z1]
  have z3 : W3.heap.size = w.heap.size + 1 + 1 + 1 := by rw [← hW3]; simp [z2]
  have FA : FilAt W1 w.heap.size ⟨b0, b1, b2, a1, a2⟩ := by rw [← hW1]; exact ⟨by simp, by simp [go_sem], by simp [go_sem], by simp [go_sem], by simp [go_sem], by simp [go_sem]⟩
  have b1_ : MemB 28 W2 (w.heap.size + 1) ⟨ma, mb, mc, md⟩ := by rw [← hW2, ← z1]; exact MemB.new _ _ _ _ _ _
  have b2_ : MemB 28 W3 (w.heap.size + 1 + 1) ⟨0, 0, 0, 0⟩ := by rw [← hW3, ← z2]; exact MemB.new _ _ _ _ _ _
  have s1 : w.Since w.heap.size W1 := by rw [← hW1]; exact (World.Since.refl _ _).alloc (Nat.le_refl _) _
  have s2 : W1.Since W1.heap.size W2 := by rw [← hW2]; exact (World.Since.refl _ _).alloc (Nat.le_refl _) _
  have s3 : W2.Since W2.heap.size W3 := by rw [← hW3]; exact (World.Since.refl _ _).alloc (Nat.le_refl _) _
  have F3 := Lib.hid ((FA.since (since_mono s2 (by omega))).since (since_mono s3 (by omega)))
  have B1 := Lib.hid (b1_.since s3 (by omega))
  have B2 := Lib.hid b2_
  have S3 : Hid (w.Since w.heap.size W3) := Lib.hid ((s1.trans (since_mono s2 (by omega))).trans (since_mono s3 (by omega)))
  clear hW1 hW2 hW3 s1 s2 s3 b1_ b2_ FA z1 z2
  have m0 := B1.out.c0; have m1 := B1.out.c1; have m2 := B1.out.c2; have m3 := B1.out.c3
  go_wp2_with (first | (go_at_call 33; refine (l02Form_any _ _ _ h1).mono ?_; rintro e w' ⟨rfl, rfl⟩) | (go_at_call 34; refine (few_fil _ _ _ _ _ h2).mono ?_; rintro e w' ⟨rfl, rfl⟩))
  refine (HR.out W3 S3.out F3.out).mono ?_
  rintro e w5 ⟨p, cp, ⟨qa, qb, qc, qd⟩, rfl, rfl, hg, ha, hm, hs⟩
  have hg9 := hg; rw [z3] at hg9; have HG := Lib.hid hg9; clear hg9; have HA := Lib.hid ha; have HM := Lib.hid hm
  have E2 := Lib.hid (B2.out.since hs (by omega))
  have S5 := Lib.hid (since_step S3.out hs)
  have hz5 := hs.size
  clear hg ha hm hs m0 m1 m2 m3
  simp only [MemN.val_mk]
  go_wp2_with fail
  generalize hV : World.alloc w5 _ = V
  have N1 : Hid (MemB 28 V w5.heap.size ⟨qa, qb, qc, qd⟩) := Lib.hid (by rw [← hV]; exact MemB.new _ _ _ _ _ _)
  have E3 : Hid (MemB 28 V (w.heap.size + 1 + 1) ⟨0, 0, 0, 0⟩) := Lib.hid (E2.out.since (B := w5.heap.size) (by rw [← hV]; exact (World.Since.refl _ _).alloc (Nat.le_refl _) _) E2.out.lt)
  have GV : Hid (Gs 22 V (w.heap.size + 1 + 1 + 1) p.A p.n p.xs) := Lib.hid (HG.out.since (by rw [← hV]; exact (World.Since.refl _ _).alloc (Nat.le_refl _) _))
  have SV : Hid (w.Since w.heap.size V) := Lib.hid (by rw [← hV]; exact S5.out.alloc S5.out.size _)
  clear hV
  have e0 := E3.out.c0; have e1 := E3.out.c1; have e2 := E3.out.c2; have e3 := E3.out.c3
  have l0 := E3.out.free 0; have l1 := E3.out.free 1; have l2 := E3.out.free 2; have l3 := E3.out.free 3
  have p0 := N1.out.c0; have p1 := N1.out.c1; have p2 := N1.out.c2; have p3 := N1.out.c3
  have OO : Hid (On (w.heap.size + 1 + 1) V (((((V.setCell ⟨w.heap.size + 1 + 1, 0, none⟩ (.float .f32 qa)).setCell ⟨w.heap.size + 1 + 1, 1, none⟩ (.float .f32 qb)).setCell ⟨w.heap.size + 1 + 1, 2, none⟩ (.float .f32 qc)).setCell ⟨w.heap.size + 1 + 1, 3, none⟩ (.float .f32 qd)))) := Lib.hid (((((On.refl _ _).set _ _).set _ _).set _ _).set _ _)
  have NB := Lib.hid (E3.out.set qa qb qc qd)
  go_wp2_with fail
  go_region
  all_goals
    generalize hV2 : World.setCell _ _ _ = V2 at *
    have g0 := NB.out.c0; have g1 := NB.out.c1; have g2 := NB.out.c2; have g3 := NB.out.c3
    go_wp2
    exact bodyPost_ret (v := .tuple #[.slice p.A p.n cp, .agg #[.float .f32 qa, .float .f32 qb, .float .f32 qc, .float .f32 qd], .bool true]) (by simp [results, Try.results8, go_sem, g0, g1, g2, g3]) rfl
      ⟨p, cp, ⟨qa, qb, qc, qd⟩, rfl, rfl, (gs_low GV.out OO.out (by omega)).less (by omega), HA.out, HM.out, by first | exact SV.out.trans (since_mono OO.out.1 (by omega)) | exact since_drewN (SV.out.trans (since_mono OO.out.1 (by omega))) _⟩
theorem specRF_no (form : Int) (fu : Bool) (f : FilN) (m : MemN) (A : Option Addr) (n c : Nat) (w : World) (h : ¬ (inB form 0 2 = true ∧ n ≤ 256)) (G : Nat → O) :
    Calls Try.prog 8 #[f.val, .int .i64 form, .bool fu, m.val, .slice A n c] w (PLMB 0 G noM false w) := by
  obtain ⟨b0, b1, b2, a1, a2⟩ := f
  obtain ⟨ma, mb, mc, md⟩ := m
  unfold FilN.val MemN.val
  have fin : ∀ (V : World) (k : Nat), MemB 28 V k ⟨0, 0, 0, 0⟩ → V.cell? ⟨k, 0, none⟩ = some (.float .f32 0) ∧ V.cell? ⟨k, 1, none⟩ = some (.float .f32 0) ∧ V.cell? ⟨k, 2, none⟩ = some (.float .f32 0) ∧ V.cell? ⟨k, 3, none⟩ = some (.float .f32 0) := fun V k h => ⟨h.c0, h.c1, h.c2, h.c3⟩
  cases h1 : inB form 0 2
  · go_enter Try.func8, Try.ntmps8
    go_wp2_with (go_at_call 33; refine (l02Form_any _ _ _ h1).mono ?_; rintro e w' ⟨rfl, rfl⟩)
    exact bodyPost_ret (v := .tuple #[.slice none 0 0, .agg #[.float .f32 0, .float .f32 0, .float .f32 0, .float .f32 0], .bool false]) (by simp [results, Try.results8, go_sem]) rfl (PLMB.none_ (by (repeat (first | (with_reducible refine Fl.sinDrew ?_) | (with_reducible refine World.Since.drew ?_) | (with_reducible refine Fl.sinSet ?_ ?_; rotate_left) | (with_reducible refine Fl.sinAlloc ?_ ?_; rotate_left) | with_reducible exact World.Since.refl _ _ | with_reducible assumption | (with_reducible refine Fl.sinStep (by with_reducible assumption) ?_))); all_goals (first | omega | (simp; done) | (simp; omega) | (simp [go_sem]; done) | (simp [go_sem]; omega))) _)
  · have h2 : decide ((n : Int) ≤ 256) = false := decide_eq_false fun h3 => h ⟨h1, by omega⟩
    clear h
    go_enter Try.func8, Try.ntmps8
    go_wp2_with (first | (go_at_call 33; refine (l02Form_any _ _ _ h1).mono ?_; rintro e w' ⟨rfl, rfl⟩) | (go_at_call 34; refine (few_fil _ _ _ _ _ h2).mono ?_; rintro e w' ⟨rfl, rfl⟩))
    exact bodyPost_ret (v := .tuple #[.slice none 0 0, .agg #[.float .f32 0, .float .f32 0, .float .f32 0, .float .f32 0], .bool false]) (by simp [results, Try.results8, go_sem]) rfl (PLMB.none_ (by (repeat (first | (with_reducible refine Fl.sinDrew ?_) | (with_reducible refine World.Since.drew ?_) | (with_reducible refine Fl.sinSet ?_ ?_; rotate_left) | (with_reducible refine Fl.sinAlloc ?_ ?_; rotate_left) | with_reducible exact World.Since.refl _ _ | with_reducible assumption | (with_reducible refine Fl.sinStep (by with_reducible assumption) ?_))); all_goals (first | omega | (simp; done) | (simp; omega) | (simp [go_sem]; done) | (simp [go_sem]; omega))) _)
end Go.Proofs.Ytlddppnaakjamaa

/- Folds: rows of floats that whole lists are appended to; the model's fold. -/
set_option linter.unusedVariables false
set_option linter.unusedSimpArgs false
namespace Go.Proofs.Ytlddppnaakjamaa
open Fl Go.RowKit
theorem fvl_app (xs ys : List Nat) : fvl xs ++ fvl ys = fvl (xs ++ ys) := by unfold fvl; simp
theorem wd_app (xs ys : List Nat) (j : Nat) : wd (xs ++ ys) j = if j < xs.length then wd xs j else wd ys (j - xs.length) := by
  unfold wd
  split
  · next h => simp [List.getD_eq_getElem?_getD, List.getElem?_append_left h]
  · next h => simp [List.getD_eq_getElem?_getD, List.getElem?_append_right (Nat.le_of_not_lt h)]
set_option maxRecDepth 100000 in
theorem wpList_appN {ops : Array Oper} {rest : List Oper} {o : Oper} {a : Act} {Q : Exit → Act → World → Prop} {w : World} (hgd : o.guard = none) (s x : Operand)
    (ho : o.op = .call { callee := .builtin .append, args := #[s, x], argTypes := #[27, 27] }) (lo : Nat) (v : Value) (k : Nat) (F : Nat → O) (hs : a.eval s = v) (A : Option Addr) (m c : Nat) (xs : List Nat) (B : Nat)
    (hx : a.eval x = .slice A m c) (hnone : A = none → m = 0 ∧ c = 0) (hA : Hid (Fs w B A m xs)) (hF : ∀ j, j < m → F (k + j) = ab .f32 (wd xs j)) (hk : k + m ≤ 1048576) (hlo : lo ≤ w.heap.size) (hR : Rw lo w v k F)
    (h : ∀ v' w', Hid (Rw lo w' v' (k + m) F) → Hid (w.Since lo w') → wpList Try.prog ops Q rest (a.put o.dst v') w') : wpList Try.prog ops Q (o :: rest) a w := by
  obtain ⟨os, h1, h2, h3⟩ := hR
  obtain ⟨i0, hi, hz0, hz1, hz2⟩ := info_parts Try.infoF
  have HA := hA.out
  cases A with
  | none =>
    obtain ⟨rfl, rfl⟩ := hnone rfl
    exact wpList_append_own_none (P := Try.prog) hgd s x 27 ho lo 22 i0 1 Try.underlying27 hi v k (fvl os) (by rw [hs]) h1 hx (h v w (Lib.hid ⟨os, h1, h2, h3⟩) (Lib.hid (World.Since.refl _ _)))
  | some ad =>
  refine wpList_append_own (P := Try.prog) w hgd s x 27 ho lo 22 i0 (.float .f32 0) 1 4 Try.underlying27 hi hz0 hz1 hz2 rfl (by omega) v k (fvl os) hs h1 ad m c (fvl xs) hx ?_ ?_ ?_ ?_ ?_ hlo ?_
  · rw [fvl, List.length_map, HA.1, Nat.mul_one]
  · intro j u hj
    have hlt : j < m := by
      have := (List.getElem?_eq_some_iff.1 hj).1
      rw [fvl, List.length_map, HA.1] at this; exact this
    obtain ⟨g, off, e, _, hc⟩ := HA.2.2 (by omega)
    injection e with e
    subst e
    have := hc j hlt
    rw [show (Addr.mk g off none).add j = ⟨g, off + j, none⟩ by simp [Addr.add], this]
    rw [← hj]
    unfold fvl fv wd
    simp [List.getD_eq_getElem?_getD, List.getElem?_eq_getElem (show j < xs.length by rw [HA.1]; exact hlt)]
  · intro u hu
    obtain ⟨x, _, rfl⟩ := List.mem_map.1 hu
    rfl
  · unfold maxLen; omega
  · omega
  · intro v' w' hown hg _
    have hyl : os.length = k := by simpa [fvl] using h1.1
    refine h v' w' (Lib.hid ⟨os ++ xs, ?_, fun x hx => ?_, fun j hj => ?_⟩) (Lib.hid ⟨hg.os, hg.tape, hg.output, hg.size, fun i hi => ?_⟩)
    · rw [← fvl_app]; exact hown
    · rcases List.mem_append.1 hx with h4 | h4
      · exact h2 x h4
      · exact HA.2.1 x h4
    · rw [wd_app, hyl]
      by_cases e : j < k
      · rw [if_pos e]; exact h3 j e
      · rw [if_neg e, ← hF (j - k) (by omega)]; congr 1; omega
    · refine hg.block i (by omega) fun e => ?_
      have := own_lo h1 i e.symm
      omega
theorem Rw.end_ {lo : Nat} {w : World} {v : Value} {k : Nat} {F : Nat → O} (h : Rw lo w v k F) : ∃ (A : Option Addr) (c : Nat) (xs : List Nat), v = .slice A k c ∧ k ≤ c ∧ (A = none → k = 0 ∧ c = 0) ∧ (∀ a, A = some a → ∃ g, a = ⟨g, 0, none⟩ ∧ lo ≤ g) ∧ Gs 22 w lo A k xs ∧ Are ⟨A, k, xs⟩ F := by
  obtain ⟨os, h1, hs, hf⟩ := h
  rcases h1.2 with ⟨rfl, rfl⟩ | ⟨g, cap, cur, rfl, hg, _, hk, _⟩
  · exact ⟨none, 0, os, rfl, Nat.le_refl _, fun _ => ⟨rfl, rfl⟩, (fun a h => by cases h), Gs.of_own h1 hs, hf⟩
  · exact ⟨some ⟨g, 0, none⟩, cap, os, rfl, hk, (fun h => by cases h), fun a h => by cases h; exact ⟨g, rfl, hg⟩, Gs.of_own h1 hs, hf⟩
theorem Fs.nil_ {w : World} {A : Option Addr} : Fs w 0 A 0 [] := ⟨rfl, (fun x hx => by cases hx), (fun h => by omega)⟩
/-- the last ones of a list -/
theorem Fs.tail {w : World} {B n m : Nat} {g off : Nat} {xs : List Nat} (h : Fs w B (some ⟨g, off, none⟩) (n + m) xs) : Fs w B (some ⟨g, off + n, none⟩) m (xs.drop n) :=
  ⟨by rw [List.length_drop, h.1]; omega, fun x hx => h.2.1 x (List.mem_of_mem_drop hx), fun hm => by
    obtain ⟨g', off', e, hg, hc⟩ := h.2.2 (by omega)
    injection e with e
    injection e with e1 e2 _
    subst e1; subst e2
    refine ⟨g, off + n, rfl, hg, fun k hk => ?_⟩
    have := hc (n + k) (by omega)
    rw [← Nat.add_assoc] at this
    rw [this]
    unfold fv wd
    simp [List.getD_eq_getElem?_getD]⟩
theorem wd_drop (xs : List Nat) (n k : Nat) : wd (xs.drop n) k = wd xs (n + k) := by unfold wd; simp [List.getD_eq_getElem?_getD]
def apO (xs ys : List Nat) (n j : Nat) : O := if j < n then ab .f32 (wd xs j) else ab .f32 (wd ys (j - n))
def fsum (T Z : Nat → O) (p : Nat) : Nat → O
  | 0 => some 0
  | k + 1 => opO .add .f32 (fsum T Z p k) (opO .mul .f32 (T k) (Z (p - k)))
def foldF (T Z : Nat → O) (l t i : Nat) : O := fsum T Z (l + i) t
def offO (Z : Nat → O) (n j : Nat) : O := Z (n + j)
def PEE (n0 : Nat) (f0 : Nat → O) (n1 : Nat) (f1 : Nat → O) (w : World) (e : Ending) (w' : World) : Prop :=
  ∃ (p q : Ls) (c d : Nat), e = .returned (.tuple #[.slice p.A p.n c, .slice q.A q.n d]) ∧ Hid (p.n = n0) ∧ Hid (q.n = n1) ∧ Hid (Ge w.heap.size w' (fe p.A p.n p.xs)) ∧ Hid (Ge w.heap.size w' (fe q.A q.n q.xs)) ∧ Hid (Are p f0) ∧ Hid (Are q f1) ∧ Hid (De (fe p.A p.n p.xs) (fe q.A q.n q.xs)) ∧ Hid (w.Since w.heap.size w')
end Go.Proofs.Ytlddppnaakjamaa

/- Filters: copies of samples; one filter over samples, the program's. -/
set_option linter.unusedVariables false
set_option linter.unusedSimpArgs false
namespace Go.Proofs.Ytlddppnaakjamaa
open Fl Go.RowKit
set_option maxHeartbeats 4000000 in
set_option maxRecDepth 100000 in
theorem clone_any (A : Option Addr) (n c : Nat) (xs : List Nat) (w : World) (hA : Fs w w.heap.size A n xs) (hn : n ≤ 256) :
    Calls Try.prog 44 #[.slice A n c] w fun e w' => ∃ (A' : Option Addr) (c' : Nat) (ys : List Nat), e = .returned (.slice A' n c') ∧ (∀ a, A' = some a → ∃ g, a = ⟨g, 0, none⟩) ∧ Gs 22 w' w.heap.size A' n ys ∧ (∀ j, j < n → ab .f32 (wd ys j) = ab .f32 (wd xs j)) ∧ w.Since w.heap.size w' := by
  have hq := fun W => Lib.run_eql_slice_nil W 27 22 A n c 0 0 Try.underlying27
  have HA := Lib.hid hA; clear hA
  cases A with
  | none =>
    obtain rfl : n = 0 := by
      rcases Nat.eq_zero_or_pos n with h | h
      · exact h
      · obtain ⟨g, off, e, _⟩ := HA.out.2.2 h; cases e
    go_enter Try.func44, Try.ntmps44
    go_wp2
    go_ret
    exact ⟨none, 0, [], rfl, (fun a h => by cases h), Gs.nil_, fun j hj => by omega, World.Since.refl _ _⟩
  | some ad =>
    go_enter Try.func44, Try.ntmps44
    go_wp2_with (at_builtin; refine wpList_appN rfl (.tmp 5) (.tmp 6) rfl w.heap.size _ 0 (fun j => ab .f32 (wd xs j)) rfl _ _ _ xs _ rfl (by simp) (Lib.hid (HA.out.since ((World.Since.refl _ _).alloc (Nat.le_refl _) _))) (fun j hj => by rw [Nat.zero_add]) (by omega) (by simp) (Rw.start w _ (Nat.le_refl _) _) ?_; intro v1 wa hRa hSa; have Ha := Lib.hid (((World.Since.refl w.heap.size w).alloc (Nat.le_refl _) _).trans hSa.out); clear hSa; obtain ⟨pA, cq, px, rfl, hcq, hno, hso, hgp, hap⟩ := hRa.out.end_; have HNS := Lib.hid hso; have GP := Lib.hid hgp; have AP := Lib.hid hap; clear hgp hap hRa hno hso)
    go_ret
    exact ⟨pA, cq, px, rfl, (fun a h => by obtain ⟨g, e, _⟩ := HNS.out a h; exact ⟨g, e⟩), by first | exact GP.out | (have := GP.out; rwa [Nat.zero_add] at this), fun j hj => AP.out j (by first | exact hj | (show j < 0 + n; omega)), Ha.out⟩
theorem Try.infoMem : (Try.prog.info? 28).map (fun i => (i.zero, i.size, i.bytes)) = some (some (.agg #[.float .f32 0, .float .f32 0, .float .f32 0, .float .f32 0]), 4, 16) := by kernel_rfl
theorem make_mem (W : World) : (Instr.makeSlice 62 (.int .i64 1) (.int .i64 1)).run Try.prog W = .ok (.slice (some ⟨W.heap.size, 0, none⟩) 1 1) (W.alloc (.cells #[.float .f32 0, .float .f32 0, .float .f32 0, .float .f32 0] 28)) := by
  obtain ⟨i0, hi, hz0, hz1, hz2⟩ := info_parts Try.infoMem
  have h := run_make (P := Try.prog) W 62 28 i0 _ Try.underlying62 hi hz0 .i64 .i64 1 1 (by omega) (by omega) (by rw [hz2]; decide) (by omega)
  rw [hz1] at h
  have e : madeCells (Value.agg #[.float .f32 0, .float .f32 0, .float .f32 0, .float .f32 0]).cells (Int.toNat 1 * 4) = #[.float .f32 0, .float .f32 0, .float .f32 0, .float .f32 0] := by kernel_rfl
  rw [e] at h
  exact h
set_option maxHeartbeats 8000000 in
set_option maxRecDepth 100000 in
theorem implRFs_one (form : Nat) (hform : form ≤ 2) (fu : Bool) (f : FilN) (m : MemN) (F : Fil) (M : Mem) (A : Option Addr) (n c b1 b2 : Nat) (xs : List Nat) (w : World) (hF : FvF f F) (hM : FvM m M) (hA : Fs w w.heap.size A n xs) (hn : n ≤ 256) (hb1 : FilAt w b1 f) (hb2 : MemB 28 w b2 m) :
    Calls Try.prog 36 #[.slice (some ⟨b1, 0, none⟩) 1 1, .int .i64 (form : Int), .bool fu, .slice (some ⟨b2, 0, none⟩) 1 1, .slice A n c] w fun e w' => ∃ (p : Ls) (c' mg : Nat) (m' : MemN), e = .returned (.tuple #[.slice p.A p.n c', .slice (some ⟨mg, 0, none⟩) 1 1, .bool true]) ∧ p.n = n ∧ Gs 22 w' w.heap.size p.A p.n p.xs ∧ Are p (filY form fu F M (fun k => ab .f32 (wd xs k))) ∧ MemB 28 w' mg m' ∧ FvM m' (filM form fu F M (fun k => ab .f32 (wd xs k)) n) ∧ w.Since w.heap.size w' := by
  obtain ⟨kk, hkk, hso⟩ := stepOf_any form hform
  have HSO := Lib.hid hso; clear hso
  have hfew : decide ((n : Int) ≤ 256) = true := decide_eq_true (by omega)
  have HSM : Hid (∀ v, Calls Try.prog 43 #[.slice A n c] v fun e w' => e = .returned (.bool true) ∧ v = w') := Lib.hid fun v => implSamples_b A n c true v hfew
  have HA := Lib.hid hA
  have HB1 := Lib.hid hb1; have HB2 := Lib.hid hb2
  clear hA hb1 hb2 hfew
  go_enter Try.func36, Try.ntmps36
  go_wp2_with (first | (go_at_call 39; refine (HSO.out _).mono ?_; rintro e w' ⟨rfl, rfl⟩) | (go_at_call 43; refine (HSM.out _).mono ?_; rintro e w' ⟨rfl, rfl⟩))
  go_at_call 44
  refine (clone_any A n c xs w HA.out hn).mono ?_
  rintro e w1 ⟨A', c', ys, rfl, hsome, hg, hy, hs⟩
  have G1 := Lib.hid hg; have Y1 := Lib.hid hy; have S1 := Lib.hid hs; have NS := Lib.hid hsome
  clear hg hy hs hsome
  have hmk := make_mem w1
  have z1 := S1.out.size
  go_wp2_with fail
  generalize hW2 : World.alloc w1 _ = w2
  have z2 : w2.heap.size = w1.heap.size + 1 := by rw [← hW2]; simp
  have hs2 : w1.Since w1.heap.size w2 := by rw [← hW2]; exact (World.Since.refl _ _).alloc (Nat.le_refl _) _
  have S2 := Lib.hid (since_step S1.out hs2)
  have N2 : Hid (MemB 28 w2 w1.heap.size ⟨0, 0, 0, 0⟩) := Lib.hid (by rw [← hW2]; exact MemB.new _ _ _ _ _ _)
  have G2 := Lib.hid (G1.out.since hs2)
  have F2 := Lib.hid (HB1.out.since (since_mono S2.out (show b1 + 1 ≤ w.heap.size by have := HB1.out.lt; omega)))
  have M2 := Lib.hid (HB2.out.since S2.out HB2.out.lt)
  clear hW2 hs2 hmk
  have k0 := F2.out.b0; have k1 := F2.out.b1; have k2 := F2.out.b2; have k3 := F2.out.a1; have k4 := F2.out.a2
  refine wp_loop_rounds 2 ?_
  rw [rounds_succ]
  go_wp2_with fail
  generalize hW3 : World.alloc w2 _ = w3
  have z3 : w3.heap.size = w2.heap.size + 1 := by rw [← hW3]; simp
  have hs3 : w2.Since w2.heap.size w3 := by rw [← hW3]; exact (World.Since.refl _ _).alloc (Nat.le_refl _) _
  have FF : Hid (FilAt w3 w2.heap.size f) := Lib.hid (by rw [← hW3]; exact ⟨by simp, by simp [go_sem], by simp [go_sem], by simp [go_sem], by simp [go_sem], by simp [go_sem]⟩)
  have N3 := Lib.hid (N2.out.since hs3 N2.out.lt)
  have M3 := Lib.hid (M2.out.since hs3 M2.out.lt)
  have G3 := Lib.hid (G2.out.since hs3)
  have S3 := Lib.hid (since_step S2.out hs3)
  clear hW3 hs3 k0 k1 k2 k3 k4
  have FF' := FF.out
  rw [z2] at FF'
  have k0 := FF'.b0; have k1 := FF'.b1; have k2 := FF'.b2; have k3 := FF'.a1; have k4 := FF'.a2
  have m0 := M3.out.c0; have m1 := M3.out.c1; have m2 := M3.out.c2; have m3 := M3.out.c3
  have h18 : w1.heap.size + 1 < w3.heap.size := by omega
  have hmg : w1.heap.size < w3.heap.size := by omega
  have hb2 : b2 < w3.heap.size := M3.out.lt
  have hzw : w.heap.size ≤ w3.heap.size := S3.out.size
  -- the run in place
  have run : ∀ V : World, w3.Since w3.heap.size V → Calls Try.prog 41 #[.agg #[.float .f32 f.b0, .float .f32 f.b1, .float .f32 f.b2, .float .f32 f.a1, .float .f32 f.a2, .bool fu], .func (.func kk) #[] #[], .agg #[.float .f32 m.a, .float .f32 m.b, .float .f32 m.c, .float .f32 m.d], .slice A' n c'] V fun e w' => ∃ (ma mb mc md : Nat) (zs : List Nat), e = .returned (.agg #[.float .f32 ma, .float .f32 mb, .float .f32 mc, .float .f32 md]) ∧ FvM ⟨ma, mb, mc, md⟩ (filM form fu F M (fun k => ab .f32 (wd xs k)) n) ∧ Gs 22 w' w.heap.size A' n zs ∧ Are ⟨A', n, zs⟩ (filY form fu F M (fun k => ab .f32 (wd xs k))) ∧ w.Since w.heap.size w' ∧ MemB 28 w' w1.heap.size ⟨0, 0, 0, 0⟩ := fun V hs => by
    have hV := since_step S3.out hs
    have hgV := G3.out.since hs
    by_cases h0 : 0 < n
    · obtain ⟨g, cs, e9, hlg, hbg, _⟩ := G1.out.2.2 h0
      have hg1 : g < w1.heap.size := (Array.getElem?_eq_some_iff.1 hbg).1
      subst e9
      have h9 := implRun_any form kk hkk fu f m F M (some ⟨g, 0, none⟩) n c' g w.heap.size (fun k => ab .f32 (wd xs k)) V hF hM (fun h0 => ⟨rfl, Pr.of hgV h0 fun j hj => Y1.out j hj⟩) hn hV.size
      simp only [MemN.val, setV] at h9
      refine h9.mono fun e w' => ?_
      rintro ⟨⟨ma, mb, mc, md⟩, he, hm, hp, hs2, hfr⟩
      obtain ⟨zs, h1, h2⟩ := (hp h0).done hlg
      exact ⟨ma, mb, mc, md, zs, he, hm, h1, h2, hV.trans hs2, (N3.out.since hs N3.out.lt).of (hfr _ (by have := hs.size; omega) (by omega))⟩
    · have h9 := implRun_any form kk hkk fu f m F M A' n c' (w1.heap.size + 1) w.heap.size (fun k => ab .f32 (wd xs k)) V hF hM (fun h => absurd h h0) hn hV.size
      simp only [MemN.val, setV] at h9
      refine h9.mono fun e w' => ?_
      rintro ⟨⟨ma, mb, mc, md⟩, he, hm, hp, hs2, hfr⟩
      exact ⟨ma, mb, mc, md, [], he, hm, ⟨by simp; omega, (fun x hx => by cases hx), fun h => absurd h h0⟩, (fun j hj => absurd (Nat.lt_of_le_of_lt (Nat.zero_le _) hj) h0), hV.trans hs2, (N3.out.since hs N3.out.lt).of (hfr _ (by have := hs.size; omega) (by omega))⟩
  have RUN := Lib.hid run; clear run FF'
  have HCO := Lib.hid (cellsOf_any m)
  have MEMO := Lib.hid memory_any
  unfold MemN.val at HCO MEMO
  go_region_with (first
    | (go_at_call 49; refine (HCO.out _).mono ?_; rintro e w4 ⟨rfl, hs⟩; (try replace hs := sinUD hs); obtain ⟨hc4, hf4⟩ := Fl.sinCell hs; have T4 := Lib.hid hs; clear hs)
    | (go_at_call 41; refine (RUN.out _ T4.out).mono ?_; rintro e w5 ⟨ma, mb, mc, md, zs, rfl, hm, hg, ha, hs, hmb⟩; have M5 := Lib.hid hm; have G5 := Lib.hid hg; have A5 := Lib.hid ha; have T5 := Lib.hid hs; have N5 := Lib.hid hmb; clear hm hg ha hs hmb)
    | (go_at_call 57; refine (MEMO.out ⟨ma, mb, mc, md⟩ _).mono ?_; rintro e w6 ⟨rfl, hs⟩; (try replace hs := sinUD hs); have N6 := Lib.hid (N5.out.since hs N5.out.lt); have G6 := Lib.hid (G5.out.since hs); have T6 := Lib.hid (since_step T5.out hs); clear hs; have e0 := N6.out.c0; have e1 := N6.out.c1; have e2 := N6.out.c2; have e3 := N6.out.c3; have l0 := N6.out.free 0; have l1 := N6.out.free 1; have l2 := N6.out.free 2; have l3 := N6.out.free 3))
  all_goals
    have OO : Hid (On w1.heap.size w6 (((((w6.setCell ⟨w1.heap.size, 0, none⟩ (.float .f32 ma)).setCell ⟨w1.heap.size, 1, none⟩ (.float .f32 mb)).setCell ⟨w1.heap.size, 2, none⟩ (.float .f32 mc)).setCell ⟨w1.heap.size, 3, none⟩ (.float .f32 md)))) := Lib.hid (((((On.refl _ _).set _ _).set _ _).set _ _).set _ _)
    have NB := Lib.hid (N6.out.set ma mb mc md)
    have GV : Hid (Gs 22 (((((w6.setCell ⟨w1.heap.size, 0, none⟩ (.float .f32 ma)).setCell ⟨w1.heap.size, 1, none⟩ (.float .f32 mb)).setCell ⟨w1.heap.size, 2, none⟩ (.float .f32 mc)).setCell ⟨w1.heap.size, 3, none⟩ (.float .f32 md))) w.heap.size A' n zs) := Lib.hid (by
      by_cases h0 : 0 < n
      · obtain ⟨g, cs, e9, hlg, hbg, _⟩ := G1.out.2.2 h0
        have hg1 : g < w1.heap.size := (Array.getElem?_eq_some_iff.1 hbg).1
        exact Gs.on G6.out OO.out (fun s t h => by rw [e9] at h; injection h with h; injection h with h _ _; omega)
      · exact ⟨G6.out.1, G6.out.2.1, fun h => absurd h h0⟩)
    have SV := Lib.hid (T6.out.trans (since_mono OO.out.1 z1))
    generalize hV : World.setCell _ _ _ = V at *
    clear hV k0 k1 k2 k3 k4 m0 m1 m2 m3 e0 e1 e2 e3 l0 l1 l2 l3
    go_wp2_with fail
    rw [rounds_succ]
    go_wp2_with fail
    go_ret3
    exact ⟨⟨A', n, zs⟩, c', w1.heap.size, ⟨ma, mb, mc, md⟩, rfl, rfl, GV.out, A5.out, NB.out, M5.out, SV.out⟩
end Go.Proofs.Ytlddppnaakjamaa

/- Filters: RunFilter, the program's; what fails. -/
set_option linter.unusedVariables false
set_option linter.unusedSimpArgs false
namespace Go.Proofs.Ytlddppnaakjamaa
open Fl Go.RowKit
theorem implRFs_no (form : Int) (fu : Bool) (A : Option Addr) (n c b1 b2 : Nat) (w : World) (h : ¬ (inB form 0 2 = true ∧ n ≤ 256)) :
    Calls Try.prog 36 #[.slice (some ⟨b1, 0, none⟩) 1 1, .int .i64 form, .bool fu, .slice (some ⟨b2, 0, none⟩) 1 1, .slice A n c] w fun e w' => e = .returned (.tuple #[.slice none 0 0, .slice none 0 0, .bool false]) ∧ w.Since w.heap.size w' := by
  cases h1 : inB form 0 2
  · go_enter Try.func36, Try.ntmps36
    go_wp2_with (go_at_call 39; refine (stepOf_out _ _ h1).mono ?_; rintro e w' ⟨rfl, rfl⟩)
    go_ret3
    exact ⟨rfl, by (repeat (first | (with_reducible refine Fl.sinDrew ?_) | (with_reducible refine World.Since.drew ?_) | (with_reducible refine Fl.sinSet ?_ ?_; rotate_left) | (with_reducible refine Fl.sinAlloc ?_ ?_; rotate_left) | with_reducible exact World.Since.refl _ _ | with_reducible assumption | (with_reducible refine Fl.sinStep (by with_reducible assumption) ?_))); all_goals (first | omega | (simp; done) | (simp; omega) | (simp [go_sem]; done) | (simp [go_sem]; omega))⟩
  · have h2 : decide ((n : Int) ≤ 256) = false := decide_eq_false fun h3 => h ⟨h1, by omega⟩
    have HSM : Hid (∀ v, Calls Try.prog 43 #[.slice A n c] v fun e w' => e = .returned (.bool false) ∧ v = w') := Lib.hid fun v => implSamples_b A n c false v h2
    clear h h2
    simp only [inB, Bool.and_eq_true, decide_eq_true_eq] at h1
    obtain ⟨form, rfl⟩ := Int.eq_ofNat_of_zero_le h1.1
    obtain ⟨kk, _, hso⟩ := stepOf_any form (by omega)
    have HSO := Lib.hid hso; clear hso
    go_enter Try.func36, Try.ntmps36
    go_wp2_with (first | (go_at_call 39; refine (HSO.out _).mono ?_; rintro e w' ⟨rfl, rfl⟩) | (go_at_call 43; refine (HSM.out _).mono ?_; rintro e w' ⟨rfl, rfl⟩))
    go_ret3
    exact ⟨rfl, by (repeat (first | (with_reducible refine Fl.sinDrew ?_) | (with_reducible refine World.Since.drew ?_) | (with_reducible refine Fl.sinSet ?_ ?_; rotate_left) | (with_reducible refine Fl.sinAlloc ?_ ?_; rotate_left) | with_reducible exact World.Since.refl _ _ | with_reducible assumption | (with_reducible refine Fl.sinStep (by with_reducible assumption) ?_))); all_goals (first | omega | (simp; done) | (simp; omega) | (simp [go_sem]; done) | (simp [go_sem]; omega))⟩
set_option maxHeartbeats 8000000 in
set_option maxRecDepth 100000 in
theorem implRF_ok (form : Nat) (hform : form ≤ 2) (fu : Bool) (f : FilN) (m : MemN) (F : Fil) (M : Mem) (A : Option Addr) (n c : Nat) (xs : List Nat) (w : World) (hF : FvF f F) (hM : FvM m M) (hA : Fs w w.heap.size A n xs) (hn : n ≤ 256) :
    Calls Try.prog 12 #[f.val, .int .i64 (form : Int), .bool fu, m.val, .slice A n c] w (PLMB n (filY form fu F M (fun k => ab .f32 (wd xs k))) (filM form fu F M (fun k => ab .f32 (wd xs k)) n) true w) := by
  have HR := Lib.hid fun (V : World) (b1 b2 : Nat) (hs : w.Since w.heap.size V) (hg : FilAt V b1 f) (hm : MemB 28 V b2 m) => implRFs_one form hform fu f m F M A n c b1 b2 xs V hF hM ((hA.since hs).more hs.size) hn hg hm
  obtain ⟨b0, b1, b2, a1, a2⟩ := f
  obtain ⟨ma, mb, mc, md⟩ := m
  unfold MemN.val at *
  unfold FilN.val
  clear hA
  go_enter Try.func12, Try.ntmps12
  go_wp2_with fail
  generalize hW1 : World.alloc w _ = W1
  generalize hW2 : World.alloc W1 _ = W2
  generalize hW3 : World.alloc W2 _ = W3
  generalize hW4 : World.alloc W3 _ = W4
  generalize hW5 : World.alloc W4 _ = W5
  have z1 : W1.heap.size = w.heap.size + 1 := by rw [← hW1]; simp
  have z2 : W2.heap.size = w.heap.size + 1 + 1 := by rw [← hW2]; simp [z1]
  have z3 : W3.heap.size = w.heap.size + 1 + 1 + 1 := by rw [← hW3]; simp [z2]
  have z4 : W4.heap.size = w.heap.size + 1 + 1 + 1 + 1 := by rw [← hW4]; simp [z3]
  have s1 : w.Since w.heap.size W1 := by rw [← hW1]; exact (World.Since.refl _ _).alloc (Nat.le_refl _) _
  have s2 : W1.Since W1.heap.size W2 := by rw [← hW2]; exact (World.Since.refl _ _).alloc (Nat.le_refl _) _
  have s3 : W2.Since W2.heap.size W3 := by rw [← hW3]; exact (World.Since.refl _ _).alloc (Nat.le_refl _) _
  have s4 : W3.Since W3.heap.size W4 := by rw [← hW4]; exact (World.Since.refl _ _).alloc (Nat.le_refl _) _
  have s5 : W4.Since W4.heap.size W5 := by rw [← hW5]; exact (World.Since.refl _ _).alloc (Nat.le_refl _) _
  have z5 : W5.heap.size = w.heap.size + 1 + 1 + 1 + 1 + 1 := by rw [← hW5]; simp [z4]
  have S5 : Hid (w.Since w.heap.size W5) := Lib.hid (((((s1.trans (since_mono s2 (by omega))).trans (since_mono s3 (by omega))).trans (since_mono s4 (by omega))).trans (since_mono s5 (by omega))))
  have FA : FilAt W4 (w.heap.size + 1 + 1 + 1) ⟨b0, b1, b2, a1, a2⟩ := by rw [← hW4, ← z3]; exact ⟨by simp, by simp [go_sem], by simp [go_sem], by simp [go_sem], by simp [go_sem], by simp [go_sem]⟩
  have F5 := Lib.hid (FA.since (since_mono s5 (by omega)))
  have M5 : Hid (MemB 28 W5 (w.heap.size + 1 + 1 + 1 + 1) ⟨ma, mb, mc, md⟩) := Lib.hid (by rw [← hW5, ← z4]; exact MemB.new _ _ _ _ _ _)
  have B3 : MemB 28 W3 (w.heap.size + 1 + 1) ⟨0, 0, 0, 0⟩ := by rw [← hW3, ← z2]; exact MemB.new _ _ _ _ _ _
  have B5 := Lib.hid ((B3.since s4 (by omega)).since s5 (by omega))
  clear hW1 hW2 hW3 hW4 hW5 s1 s2 s3 s4 s5 FA B3 z1 z2 z3 z4
  refine (HR.out W5 _ _ S5.out F5.out M5.out).mono ?_
  rintro e w6 ⟨p, c', mg, ⟨qa, qb, qc, qd⟩, rfl, rfl, hg, ha, hn6, hm, hs⟩
  have hg9 := hg; rw [z5] at hg9
  have G6 := Lib.hid hg9; have A6 := Lib.hid ha; have N6 := Lib.hid hn6; have M6 := Lib.hid hm; have S6 := Lib.hid (since_step S5.out hs)
  have E6 := Lib.hid (B5.out.since hs (by omega))
  clear hg hg9 ha hn6 hm hs
  go_wp2_with fail
  have e0 := E6.out.c0; have e1 := E6.out.c1; have e2 := E6.out.c2; have e3 := E6.out.c3
  have l0 := E6.out.free 0; have l1 := E6.out.free 1; have l2 := E6.out.free 2; have l3 := E6.out.free 3
  have p0 := N6.out.c0; have p1 := N6.out.c1; have p2 := N6.out.c2; have p3 := N6.out.c3
  have OO : Hid (On (w.heap.size + 1 + 1) w6 (((((w6.setCell ⟨w.heap.size + 1 + 1, 0, none⟩ (.float .f32 qa)).setCell ⟨w.heap.size + 1 + 1, 1, none⟩ (.float .f32 qb)).setCell ⟨w.heap.size + 1 + 1, 2, none⟩ (.float .f32 qc)).setCell ⟨w.heap.size + 1 + 1, 3, none⟩ (.float .f32 qd)))) := Lib.hid (((((On.refl _ _).set _ _).set _ _).set _ _).set _ _)
  have NB := Lib.hid (E6.out.set qa qb qc qd)
  go_region
  all_goals
    generalize hV2 : World.setCell _ _ _ = V2 at *
    have g0 := NB.out.c0; have g1 := NB.out.c1; have g2 := NB.out.c2; have g3 := NB.out.c3
    go_wp2
    exact bodyPost_ret (v := .tuple #[.slice p.A p.n c', .agg #[.float .f32 qa, .float .f32 qb, .float .f32 qc, .float .f32 qd], .bool true]) (by simp [results, Try.results12, go_sem, g0, g1, g2, g3]) rfl
      ⟨p, c', ⟨qa, qb, qc, qd⟩, rfl, rfl, (gs_low G6.out OO.out (by omega)).less (by omega), A6.out, M6.out, by first | exact S6.out.trans (since_mono OO.out.1 (by omega)) | exact since_drewN (S6.out.trans (since_mono OO.out.1 (by omega))) _⟩
set_option maxHeartbeats 8000000 in
set_option maxRecDepth 100000 in
theorem implRF_no (form : Int) (fu : Bool) (f : FilN) (m : MemN) (A : Option Addr) (n c : Nat) (w : World) (h : ¬ (inB form 0 2 = true ∧ n ≤ 256)) (G : Nat → O) :
    Calls Try.prog 12 #[f.val, .int .i64 form, .bool fu, m.val, .slice A n c] w (PLMB 0 G noM false w) := by
  have HR := Lib.hid fun (V : World) (b1 b2 : Nat) => implRFs_no form fu A n c b1 b2 V h
  clear h
  obtain ⟨b0, b1, b2, a1, a2⟩ := f
  obtain ⟨ma, mb, mc, md⟩ := m
  unfold FilN.val MemN.val
  go_enter Try.func12, Try.ntmps12
  go_wp2_with fail
  generalize hW1 : World.alloc w _ = W1
  generalize hW2 : World.alloc W1 _ = W2
  generalize hW3 : World.alloc W2 _ = W3
  generalize hW4 : World.alloc W3 _ = W4
  generalize hW5 : World.alloc W4 _ = W5
  have z1 : W1.heap.size = w.heap.size + 1 := by rw [← hW1]; simp
  have z2 : W2.heap.size = w.heap.size + 1 + 1 := by rw [← hW2]; simp [z1]
  have z3 : W3.heap.size = w.heap.size + 1 + 1 + 1 := by rw [← hW3]; simp [z2]
  have z4 : W4.heap.size = w.heap.size + 1 + 1 + 1 + 1 := by rw [← hW4]; simp [z3]
  have s1 : w.Since w.heap.size W1 := by rw [← hW1]; exact (World.Since.refl _ _).alloc (Nat.le_refl _) _
  have s2 : W1.Since W1.heap.size W2 := by rw [← hW2]; exact (World.Since.refl _ _).alloc (Nat.le_refl _) _
  have s3 : W2.Since W2.heap.size W3 := by rw [← hW3]; exact (World.Since.refl _ _).alloc (Nat.le_refl _) _
  have s4 : W3.Since W3.heap.size W4 := by rw [← hW4]; exact (World.Since.refl _ _).alloc (Nat.le_refl _) _
  have s5 : W4.Since W4.heap.size W5 := by rw [← hW5]; exact (World.Since.refl _ _).alloc (Nat.le_refl _) _
  have z5 : W5.heap.size = w.heap.size + 1 + 1 + 1 + 1 + 1 := by rw [← hW5]; simp [z4]
  have S5 : Hid (w.Since w.heap.size W5) := Lib.hid (((((s1.trans (since_mono s2 (by omega))).trans (since_mono s3 (by omega))).trans (since_mono s4 (by omega))).trans (since_mono s5 (by omega))))
  have B3 : MemB 28 W3 (w.heap.size + 1 + 1) ⟨0, 0, 0, 0⟩ := by rw [← hW3, ← z2]; exact MemB.new _ _ _ _ _ _
  have B5 := Lib.hid ((B3.since s4 (by omega)).since s5 (by omega))
  clear hW1 hW2 hW3 hW4 hW5 s1 s2 s3 s4 s5 B3 z1 z2 z3 z4
  refine (HR.out W5 _ _).mono ?_
  rintro e w6 ⟨rfl, hs⟩
  have S6 := Lib.hid (since_step S5.out hs)
  have E6 := Lib.hid (B5.out.since hs (by omega))
  clear hs
  have e0 := E6.out.c0; have e1 := E6.out.c1; have e2 := E6.out.c2; have e3 := E6.out.c3
  have l0 := E6.out.free 0; have l1 := E6.out.free 1; have l2 := E6.out.free 2; have l3 := E6.out.free 3
  have OO : Hid (On (w.heap.size + 1 + 1) w6 (((((w6.setCell ⟨w.heap.size + 1 + 1, 0, none⟩ (.float .f32 0)).setCell ⟨w.heap.size + 1 + 1, 1, none⟩ (.float .f32 0)).setCell ⟨w.heap.size + 1 + 1, 2, none⟩ (.float .f32 0)).setCell ⟨w.heap.size + 1 + 1, 3, none⟩ (.float .f32 0)))) := Lib.hid (((((On.refl _ _).set _ _).set _ _).set _ _).set _ _)
  have NB := Lib.hid (E6.out.set 0 0 0 0)
  go_wp2_with fail
  generalize hV2 : World.setCell _ _ _ = V2 at *
  have g0 := NB.out.c0; have g1 := NB.out.c1; have g2 := NB.out.c2; have g3 := NB.out.c3
  exact bodyPost_ret (v := .tuple #[.slice none 0 0, .agg #[.float .f32 0, .float .f32 0, .float .f32 0, .float .f32 0], .bool false]) (by simp [results, Try.results12, go_sem, g0, g1, g2, g3]) rfl (PLMB.none_ (S6.out.trans (since_mono OO.out.1 (by omega))) _)
end Go.Proofs.Ytlddppnaakjamaa

/- What is known of a slot: a memory; a list, a memory and a yes or no. -/
set_option linter.unusedVariables false
set_option linter.unusedSimpArgs false
namespace Go.Proofs.Ytlddppnaakjamaa
open Fl Go.RowKit
namespace Lk
def mK (M : Mem) : Kd where
  p := fun u S w => ∃ m : MemN, u = .agg #[.float .f32 m.a, .float .f32 m.b, .float .f32 m.c, .float .f32 m.d] ∧ FvM m M
  stable := fun u S w w' h hp => hp
  bx := false
def plmK (lo n0 : Nat) (f0 : Nat → O) (M : Mem) (b : Bool) : Kd where
  p := fun u S w => ∃ (p : Ls) (c : Nat) (m : MemN), u = .tuple #[.slice p.A p.n c, .agg #[.float .f32 m.a, .float .f32 m.b, .float .f32 m.c, .float .f32 m.d], .bool b] ∧ p.n = n0 ∧ Are p f0 ∧ FvM m M ∧ EnK lo (fe p.A p.n p.xs) S w
  stable := fun u S w w' h hp => by
    obtain ⟨p, c, m, e, h1, h2, h3, hb⟩ := hp
    exact ⟨p, c, m, e, h1, h2, h3, hb.keep h⟩
  bx := false
/-- a memory's cells -/
def isMem (M : Mem) (cs : List Value) : Prop := ∃ a b c d : Nat, cs = [a, b, c, d].map (fun x => Value.float .f32 x) ∧ FvM ⟨a, b, c, d⟩ M
theorem plm_of {lo n0 : Nat} {f0 : Nat → O} {M : Mem} {b : Bool} {w w' : World} {e : Ending} (hl : lo ≤ w.heap.size) (h : PLMB n0 f0 M b w e w') : ∃ u S, e = .returned u ∧ nb u ∧ (plmK lo n0 f0 M b).p u S w' ∧ w.Since w.heap.size w' ∧ ∀ g, S g → w.heap.size ≤ g ∧ g < w'.heap.size := by
  obtain ⟨p, c, m, rfl, h1, h2, h3, h4, h5⟩ := h
  have hg := h2.toE
  exact ⟨_, (fe p.A p.n p.xs).S, rfl, trivial, ⟨p, c, m, rfl, h1, h3, h4, EnK.of hg hl⟩, h5, hg.2.2⟩
end Lk
end Go.Proofs.Ytlddppnaakjamaa

/- Walks of laws whose arguments or results are lists. -/
set_option linter.unusedVariables false
set_option linter.unusedSimpArgs false
namespace Go.Proofs.Ytlddppnaakjamaa
open Fl Go.RowKit
set_option maxHeartbeats 16000000 in
set_option maxRecDepth 100000 in
theorem lawRunFilter_gen (a0 : FilN) (a1 : Int) (a2 : Bool) (a3 : MemN) (A4 : Option Addr) (n4 c4 : Nat) (x4 : List Nat) (rn0 : Nat) (rf0 : Nat → Option Nat) (rs1 : Mem) (rb2 : Bool) (w : World)
    (h4 : Fs w w.heap.size A4 n4 x4) (hn4 : n4 ≤ 1048576) (hr0 : rn0 ≤ 1048576)
    (hsp : ∀ (v : World) (b4 : Nat), Fs v v.heap.size (some ⟨b4, 0, none⟩) n4 x4 → Calls Try.prog 8 #[a0.val, .int .i64 a1, .bool a2, a3.val, .slice (some ⟨b4, 0, none⟩) n4 n4] v (PLMB rn0 rf0 rs1 rb2 v))
    (him : ∀ (v : World) (b4 : Nat), Fs v v.heap.size (some ⟨b4, 0, none⟩) n4 x4 → Calls Try.prog 12 #[a0.val, .int .i64 a1, .bool a2, a3.val, .slice (some ⟨b4, 0, none⟩) n4 n4] v (PLMB rn0 rf0 rs1 rb2 v)) :
    Calls Try.prog 3 #[a0.val, .int .i64 a1, .bool a2, a3.val, .slice A4 n4 c4] w fun e w' => e = .returned (.bool true) ∧ w.Since w.heap.size w' := by
  obtain ⟨a0_0, a0_1, a0_2, a0_3, a0_4⟩ := a0
  have hto0 := toFilter_any ⟨a0_0, a0_1, a0_2, a0_3, a0_4⟩
  simp only [FilN.val] at hto0 hsp him ⊢
  have HTO0 := Lib.hid hto0; clear hto0
  obtain ⟨a3_0, a3_1, a3_2, a3_3⟩ := a3
  have hto3 := toMemory_any ⟨a3_0, a3_1, a3_2, a3_3⟩
  simp only [MemN.val] at hto3 hsp him ⊢
  have HTO3 := Lib.hid hto3; clear hto3
  obtain ⟨W, hW⟩ : ∃ W, W = ((w.alloc (.cells #[.float .f32 a0_0, .float .f32 a0_1, .float .f32 a0_2, .float .f32 a0_3, .float .f32 a0_4] 24)).alloc (.cells #[.float .f32 a3_0, .float .f32 a3_1, .float .f32 a3_2, .float .f32 a3_3] 26)) := ⟨_, rfl⟩
  have S0 : Hid (w.Since w.heap.size W) := Lib.hid (by rw [hW]; exact ((World.Since.refl _ _).alloc (Nat.le_refl _) _).alloc (by simp; try omega) _)
  have hz : w.heap.size + 1 < W.heap.size := by rw [hW]; simp
  have RG0 : Hid (W.rangeAt (w.heap.size) 0 [.float .f32 a0_0, .float .f32 a0_1, .float .f32 a0_2, .float .f32 a0_3, .float .f32 a0_4]) := Lib.hid (fun j v hj => by rw [Nat.zero_add]; match j, hj with | 0, hj => (cases hj; rw [hW]; simp [go_sem]) | 1, hj => (cases hj; rw [hW]; simp [go_sem]) | 2, hj => (cases hj; rw [hW]; simp [go_sem]) | 3, hj => (cases hj; rw [hW]; simp [go_sem]) | 4, hj => (cases hj; rw [hW]; simp [go_sem]))
  have BX0_0 : Hid (W.cell? ⟨w.heap.size, 0, none⟩ = some (.float .f32 a0_0)) := Lib.hid (by rw [hW]; simp [go_sem])
  have BX0_1 : Hid (W.cell? ⟨w.heap.size, 1, none⟩ = some (.float .f32 a0_1)) := Lib.hid (by rw [hW]; simp [go_sem])
  have BX0_2 : Hid (W.cell? ⟨w.heap.size, 2, none⟩ = some (.float .f32 a0_2)) := Lib.hid (by rw [hW]; simp [go_sem])
  have BX0_3 : Hid (W.cell? ⟨w.heap.size, 3, none⟩ = some (.float .f32 a0_3)) := Lib.hid (by rw [hW]; simp [go_sem])
  have BX0_4 : Hid (W.cell? ⟨w.heap.size, 4, none⟩ = some (.float .f32 a0_4)) := Lib.hid (by rw [hW]; simp [go_sem])
  have RG3 : Hid (W.rangeAt (w.heap.size + 1) 0 [.float .f32 a3_0, .float .f32 a3_1, .float .f32 a3_2, .float .f32 a3_3]) := Lib.hid (fun j v hj => by rw [Nat.zero_add]; match j, hj with | 0, hj => (cases hj; rw [hW]; simp [go_sem]) | 1, hj => (cases hj; rw [hW]; simp [go_sem]) | 2, hj => (cases hj; rw [hW]; simp [go_sem]) | 3, hj => (cases hj; rw [hW]; simp [go_sem]))
  have BX3_0 : Hid (W.cell? ⟨w.heap.size + 1, 0, none⟩ = some (.float .f32 a3_0)) := Lib.hid (by rw [hW]; simp [go_sem])
  have BX3_1 : Hid (W.cell? ⟨w.heap.size + 1, 1, none⟩ = some (.float .f32 a3_1)) := Lib.hid (by rw [hW]; simp [go_sem])
  have BX3_2 : Hid (W.cell? ⟨w.heap.size + 1, 2, none⟩ = some (.float .f32 a3_2)) := Lib.hid (by rw [hW]; simp [go_sem])
  have BX3_3 : Hid (W.cell? ⟨w.heap.size + 1, 3, none⟩ = some (.float .f32 a3_3)) := Lib.hid (by rw [hW]; simp [go_sem])
  have F4 : Hid (Fs W W.heap.size A4 n4 x4) := Lib.hid (h4.now S0.out); clear h4
  have hd4 : decide ((1048576 : Int) < n4) = false := decide_eq_false (by omega)
  have HSP := Lib.hid hsp; have HIM := Lib.hid him; clear hsp him
  go_enter Try.func3, Try.ntmps3
  go_wp2_with fail
  rw [← hW]
  have S : Hid (W.Since W.heap.size W) := Lib.hid (World.Since.refl _ _)
  have LV : Hid (He W.heap.size W []) := Lib.hid trivial
  refine Lk.wp_k (by kernel_rfl) (by kernel_rfl) (by kernel_rfl) ?_
  repeat (first
    | (refine Lk.sRow rfl rfl rfl rfl 24 _ rfl (w.heap.size) 0 rfl [.float .f32 a0_0, .float .f32 a0_1, .float .f32 a0_2, .float .f32 a0_3, .float .f32 a0_4] _ Try.underlying24 rfl (by kernel_rfl) (fun v hv => Lo.range_since (Lo.range_since RG0.out S.out (show w.heap.size < W.heap.size by omega)) hv (Nat.lt_of_lt_of_le (show w.heap.size < W.heap.size by omega) S.out.size)) ?_; (try simp only [Act.eval, Act.put, Lk.Va.val, Lk.Va.kd, List.setIfInBounds_toArray, List.set_cons_succ, List.set_cons_zero, Array.getD_eq_getD_getElem?, List.getElem?_toArray, List.getElem?_cons_succ, List.getElem?_cons_zero, Option.getD_some]))
    | (refine Lk.sCallV rfl rfl rfl 9 [.tmp _] _ rfl (callsEnter 9 Try.f9 _ (by kernel_rfl) (by kernel_rfl) rfl) rfl [.agg #[.float .f32 a0_0, .float .f32 a0_1, .float .f32 a0_2, .float .f32 a0_3, .float .f32 a0_4]] rfl (.agg #[.float .f32 a0_0, .float .f32 a0_1, .float .f32 a0_2, .float .f32 a0_3, .float .f32 a0_4]) (fun v _ _ => HTO0.out v) ?_; (try simp only [Act.eval, Act.put, Lk.Va.val, Lk.Va.kd, List.setIfInBounds_toArray, List.set_cons_succ, List.set_cons_zero, Array.getD_eq_getD_getElem?, List.getElem?_toArray, List.getElem?_cons_succ, List.getElem?_cons_zero, Option.getD_some]))
    | (refine Lk.sRow rfl rfl rfl rfl 26 _ rfl (w.heap.size + 1) 0 rfl [.float .f32 a3_0, .float .f32 a3_1, .float .f32 a3_2, .float .f32 a3_3] _ Try.underlying26 rfl (by kernel_rfl) (fun v hv => Lo.range_since (Lo.range_since RG3.out S.out (show w.heap.size + 1 < W.heap.size by omega)) hv (Nat.lt_of_lt_of_le (show w.heap.size + 1 < W.heap.size by omega) S.out.size)) ?_; (try simp only [Act.eval, Act.put, Lk.Va.val, Lk.Va.kd, List.setIfInBounds_toArray, List.set_cons_succ, List.set_cons_zero, Array.getD_eq_getD_getElem?, List.getElem?_toArray, List.getElem?_cons_succ, List.getElem?_cons_zero, Option.getD_some]))
    | (refine Lk.sCallV rfl rfl rfl 10 [.tmp _] _ rfl (callsEnter 10 Try.f10 _ (by kernel_rfl) (by kernel_rfl) rfl) rfl [.agg #[.float .f32 a3_0, .float .f32 a3_1, .float .f32 a3_2, .float .f32 a3_3]] rfl (.agg #[.float .f32 a3_0, .float .f32 a3_1, .float .f32 a3_2, .float .f32 a3_3]) (fun v _ _ => HTO3.out v) ?_; (try simp only [Act.eval, Act.put, Lk.Va.val, Lk.Va.kd, List.setIfInBounds_toArray, List.set_cons_succ, List.set_cons_zero, Array.getD_eq_getD_getElem?, List.getElem?_toArray, List.getElem?_cons_succ, List.getElem?_cons_zero, Option.getD_some]))
    | (refine Lk.sCallK rfl rfl (of_decide_eq_true rfl) 11 [.tmp _] _ rfl (callsEnter 11 Try.f11 _ (by kernel_rfl) (by kernel_rfl) rfl) rfl [.slice A4 n4 c4] rfl (Lk.xK W.heap.size n4 x4) rfl (fun v hv hN => (toFE_any A4 n4 c4 x4 W v F4.out (since_step S.out hv) hn4).mono fun e v' ⟨he, hg, hs⟩ => ⟨_, _, he, trivial, ⟨_, rfl, Lk.EnK.of hg hN⟩, hs, hg.2.2⟩) ?_; (try simp only [Act.eval, Act.put, Lk.Va.val, Lk.Va.kd, List.setIfInBounds_toArray, List.set_cons_succ, List.set_cons_zero, Array.getD_eq_getD_getElem?, List.getElem?_toArray, List.getElem?_cons_succ, List.getElem?_cons_zero, Option.getD_some]))
    | (refine Lk.sCall1 rfl rfl (of_decide_eq_true rfl) 8 [.tmp _, .tmp _, .tmp _, .tmp _, .tmp 35] _ rfl (callsEnter 8 Try.f8 _ (by kernel_rfl) (by kernel_rfl) rfl) 35 (by simp) (Lk.xK W.heap.size n4 x4) rfl (fun u => [.agg #[.float .f32 a0_0, .float .f32 a0_1, .float .f32 a0_2, .float .f32 a0_3, .float .f32 a0_4], .int .i64 a1, .bool a2, .agg #[.float .f32 a3_0, .float .f32 a3_1, .float .f32 a3_2, .float .f32 a3_3], u]) (fun b => rfl) (Lk.plmK W.heap.size rn0 rf0 rs1 rb2) rfl (fun u S v hv hN hu => (by obtain ⟨B, rfl, hE⟩ := hu; exact (HSP.out v B hE.readF).mono fun e v' h => Lk.plm_of hN h)) ?_; (try simp only [Act.eval, Act.put, Lk.Va.val, Lk.Va.kd, List.setIfInBounds_toArray, List.set_cons_succ, List.set_cons_zero, Array.getD_eq_getD_getElem?, List.getElem?_toArray, List.getElem?_cons_succ, List.getElem?_cons_zero, Option.getD_some]))
    | (refine Lk.sExtract rfl rfl (of_decide_eq_true rfl) 27 0 rfl (Lk.plmK W.heap.size rn0 rf0 rs1 rb2) (Lk.feK W.heap.size rn0 rf0) rfl rfl rfl (fun u S w ⟨p, c, m, e, h1, h2, h3, h4⟩ => ⟨_, _, e, rfl, trivial, p, c, rfl, h1, h2, h4⟩) ?_; (try simp only [Act.eval, Act.put, Lk.Va.val, Lk.Va.kd, List.setIfInBounds_toArray, List.set_cons_succ, List.set_cons_zero, Array.getD_eq_getD_getElem?, List.getElem?_toArray, List.getElem?_cons_succ, List.getElem?_cons_zero, Option.getD_some]))
    | (refine Lk.sExtract rfl rfl (of_decide_eq_true rfl) 27 1 rfl (Lk.plmK W.heap.size rn0 rf0 rs1 rb2) (Lk.mK rs1) rfl rfl rfl (fun u S w ⟨p, c, m, e, h1, h2, h3, h4⟩ => ⟨_, _, e, rfl, trivial, m, rfl, h3⟩) ?_; (try simp only [Act.eval, Act.put, Lk.Va.val, Lk.Va.kd, List.setIfInBounds_toArray, List.set_cons_succ, List.set_cons_zero, Array.getD_eq_getD_getElem?, List.getElem?_toArray, List.getElem?_cons_succ, List.getElem?_cons_zero, Option.getD_some]))
    | (refine Lk.sExtractV rfl rfl rfl 27 2 rfl (Lk.plmK W.heap.size rn0 rf0 rs1 rb2) rfl (.bool rb2) (fun u S w ⟨p, c, m, e, h1, h2, h3, h4⟩ => ⟨_, e, rfl⟩) ?_; (try simp only [Act.eval, Act.put, Lk.Va.val, Lk.Va.kd, List.setIfInBounds_toArray, List.set_cons_succ, List.set_cons_zero, Array.getD_eq_getD_getElem?, List.getElem?_toArray, List.getElem?_cons_succ, List.getElem?_cons_zero, Option.getD_some]))
    | (refine Lk.sAlloc rfl rfl (of_decide_eq_true rfl) 28 rfl 28 [.float .f32 0, .float .f32 0, .float .f32 0, .float .f32 0] (fun v => by go_simp) ?_; (try simp only [Act.eval, Act.put, Lk.Va.val, Lk.Va.kd, List.setIfInBounds_toArray, List.set_cons_succ, List.set_cons_zero, Array.getD_eq_getD_getElem?, List.getElem?_toArray, List.getElem?_cons_succ, List.getElem?_cons_zero, Option.getD_some]))
    | (refine Lk.sStoreK rfl 28 12 38 rfl rfl 28 (· = _) (Lk.isMem rs1) rfl (Lk.mK rs1) rfl 4 (fun cs h => by rw [h]; rfl) (by kernel_rfl) (fun u S w ⟨m, e, h⟩ => ⟨_, e, rfl, ⟨m.a, m.b, m.c, m.d, rfl, h⟩, by simp [Value.oneCell']⟩) ?_; (try simp only [Act.eval, Act.put, Lk.Va.val, Lk.Va.kd, List.setIfInBounds_toArray, List.set_cons_succ, List.set_cons_zero, Array.getD_eq_getD_getElem?, List.getElem?_toArray, List.getElem?_cons_succ, List.getElem?_cons_zero, Option.getD_some]))
    | (refine Lk.sMove rfl rfl rfl rfl _ (.inl rfl) ?_; simp only [Act.eval, Act.put, Lk.Va.val, Lk.Va.kd, List.setIfInBounds_toArray, List.set_cons_succ, List.set_cons_zero, Array.getD_eq_getD_getElem?, List.getElem?_toArray, List.getElem?_cons_succ, List.getElem?_cons_zero, Option.getD_some])
    | (refine Lk.sMove rfl rfl rfl rfl _ (.inr rfl) ?_; simp only [Act.eval, Act.put, Lk.Va.val, Lk.Va.kd, List.setIfInBounds_toArray, List.set_cons_succ, List.set_cons_zero, Array.getD_eq_getD_getElem?, List.getElem?_toArray, List.getElem?_cons_succ, List.getElem?_cons_zero, Option.getD_some])
    | (refine Lk.sCopy rfl rfl (of_decide_eq_true rfl) _ (.inl rfl) _ rfl rfl ?_; simp only [Act.eval, Act.put, Lk.Va.val, Lk.Va.kd, List.setIfInBounds_toArray, List.set_cons_succ, List.set_cons_zero, Array.getD_eq_getD_getElem?, List.getElem?_toArray, List.getElem?_cons_succ, List.getElem?_cons_zero, Option.getD_some])
    | (refine Lk.sCopy rfl rfl (of_decide_eq_true rfl) _ (.inr rfl) _ rfl rfl ?_; simp only [Act.eval, Act.put, Lk.Va.val, Lk.Va.kd, List.setIfInBounds_toArray, List.set_cons_succ, List.set_cons_zero, Array.getD_eq_getD_getElem?, List.getElem?_toArray, List.getElem?_cons_succ, List.getElem?_cons_zero, Option.getD_some])
    | (refine Lk.sQuiet rfl rfl rfl rfl rfl (fun K hK => ?_); go_big_quiet_op; (refine hK _ ?_; clear hK K)))
  refine Lk.wpK_nil ?_
  refine Lk.After.apart 12 11 _ _ rfl rfl rfl (by decide) ?_
  refine Lk.After.slot 11 _ rfl ?_; intro u11 _; simp only [Act.eval, Act.put, Lk.Va.val, Lk.Va.kd, List.setIfInBounds_toArray, List.set_cons_succ, List.set_cons_zero, Array.getD_eq_getD_getElem?, List.getElem?_toArray, List.getElem?_cons_succ, List.getElem?_cons_zero, Option.getD_some]
  refine Lk.After.slot 12 _ rfl ?_; intro u12 _; simp only [Act.eval, Act.put, Lk.Va.val, Lk.Va.kd, List.setIfInBounds_toArray, List.set_cons_succ, List.set_cons_zero, Array.getD_eq_getD_getElem?, List.getElem?_toArray, List.getElem?_cons_succ, List.getElem?_cons_zero, Option.getD_some]
  refine Lk.After.slot 35 _ rfl ?_; intro u35 _; simp only [Act.eval, Act.put, Lk.Va.val, Lk.Va.kd, List.setIfInBounds_toArray, List.set_cons_succ, List.set_cons_zero, Array.getD_eq_getD_getElem?, List.getElem?_toArray, List.getElem?_cons_succ, List.getElem?_cons_zero, Option.getD_some]
  refine Lk.After.slot 36 _ rfl ?_; intro u36 _; simp only [Act.eval, Act.put, Lk.Va.val, Lk.Va.kd, List.setIfInBounds_toArray, List.set_cons_succ, List.set_cons_zero, Array.getD_eq_getD_getElem?, List.getElem?_toArray, List.getElem?_cons_succ, List.getElem?_cons_zero, Option.getD_some]
  refine Lk.After.slot 27 _ rfl ?_; intro u27 _; simp only [Act.eval, Act.put, Lk.Va.val, Lk.Va.kd, List.setIfInBounds_toArray, List.set_cons_succ, List.set_cons_zero, Array.getD_eq_getD_getElem?, List.getElem?_toArray, List.getElem?_cons_succ, List.getElem?_cons_zero, Option.getD_some]
  refine Lk.After.slot 38 _ rfl ?_; intro u38 _; simp only [Act.eval, Act.put, Lk.Va.val, Lk.Va.kd, List.setIfInBounds_toArray, List.set_cons_succ, List.set_cons_zero, Array.getD_eq_getD_getElem?, List.getElem?_toArray, List.getElem?_cons_succ, List.getElem?_cons_zero, Option.getD_some]
  refine Lk.After.slot 37 _ rfl ?_; intro u37 _; simp only [Act.eval, Act.put, Lk.Va.val, Lk.Va.kd, List.setIfInBounds_toArray, List.set_cons_succ, List.set_cons_zero, Array.getD_eq_getD_getElem?, List.getElem?_toArray, List.getElem?_cons_succ, List.getElem?_cons_zero, Option.getD_some]
  refine Lk.After.end_ [11, 12, 35, 36, 27, 38, 37] (by repeat (first | exact Lk.nbut.start | refine Lk.nbut.upd (by simp) ?_)) rfl ?_
  intro fpK wK hwK
  intro hK37 hB37 hX37
  intro hK38 hB38 hX38
  intro hK27 hB27 hX27
  intro hK36 hB36 hX36
  intro hK35 hB35 hX35
  intro hK12 hB12 hX12
  intro hK11 hB11 hX11
  intro hA12_11
  obtain ⟨w0, kw0, rfl, hnw0, hfw0, hew0⟩ := hK11
  obtain ⟨bw, cb, rfl, ⟨w1_0, w1_1, w1_2, w1_3, rfl, hvw1⟩, hSb, hGb⟩ := Lk.box_ge hK12 hB12 (hX12 rfl)
  have LV' := Lib.hid (He.new2 LV.out hwK hGb (hew0.ge hB11) (Lk.box_de hSb hA12_11 hew0) S.out.size); clear LV; have LV := LV'; clear LV'
  have S' := Lib.hid (since_step S.out hwK); clear S; have S := S'; clear S'
  have Kw0 := Lib.hid hfw0; have Nw0 := Lib.hid hnw0; have HVw1 := Lib.hid hvw1
  clear hK35 hB35 hX35 hK36 hB36 hX36 hK27 hB27 hX27 hK38 hB38 hX38 hK37 hB37 hX37 hB11 hX11 hB12 hX12 hK12 hA12_11 hSb hGb hfw0 hnw0 hvw1 hew0 hwK
  clear fpK
  obtain ⟨v4, hV⟩ : ∃ v, v = wK := ⟨_, rfl⟩; rw [← hV] at S LV ⊢; clear hV wK
  go_wp2_with fail
  go_at_call 11
  refine (toFE_any A4 n4 c4 x4 W _ F4.out S.out hn4).mono ?_
  rintro e v5 ⟨rfl, hg, hs⟩
  have LV' := Lib.hid (LV.out.new hs hg S.out.size); clear LV; have LV := LV'; clear LV'
  have S' := Lib.hid (since_step S.out hs); clear S; have S := S'; clear S'
  clear hs hg
  go_wp2_with fail
  refine Lk.wp_k (by kernel_rfl) (by kernel_rfl) (by kernel_rfl) ?_
  repeat (first
    | (refine Lk.sRow rfl rfl rfl rfl 24 _ rfl (w.heap.size) 0 rfl [.float .f32 a0_0, .float .f32 a0_1, .float .f32 a0_2, .float .f32 a0_3, .float .f32 a0_4] _ Try.underlying24 rfl (by kernel_rfl) (fun v hv => Lo.range_since (Lo.range_since RG0.out S.out (show w.heap.size < W.heap.size by omega)) hv (Nat.lt_of_lt_of_le (show w.heap.size < W.heap.size by omega) S.out.size)) ?_; (try simp only [Act.eval, Act.put, Lk.Va.val, Lk.Va.kd, List.setIfInBounds_toArray, List.set_cons_succ, List.set_cons_zero, Array.getD_eq_getD_getElem?, List.getElem?_toArray, List.getElem?_cons_succ, List.getElem?_cons_zero, Option.getD_some]))
    | (refine Lk.sCallV rfl rfl rfl 9 [.tmp _] _ rfl (callsEnter 9 Try.f9 _ (by kernel_rfl) (by kernel_rfl) rfl) rfl [.agg #[.float .f32 a0_0, .float .f32 a0_1, .float .f32 a0_2, .float .f32 a0_3, .float .f32 a0_4]] rfl (.agg #[.float .f32 a0_0, .float .f32 a0_1, .float .f32 a0_2, .float .f32 a0_3, .float .f32 a0_4]) (fun v _ _ => HTO0.out v) ?_; (try simp only [Act.eval, Act.put, Lk.Va.val, Lk.Va.kd, List.setIfInBounds_toArray, List.set_cons_succ, List.set_cons_zero, Array.getD_eq_getD_getElem?, List.getElem?_toArray, List.getElem?_cons_succ, List.getElem?_cons_zero, Option.getD_some]))
    | (refine Lk.sRow rfl rfl rfl rfl 26 _ rfl (w.heap.size + 1) 0 rfl [.float .f32 a3_0, .float .f32 a3_1, .float .f32 a3_2, .float .f32 a3_3] _ Try.underlying26 rfl (by kernel_rfl) (fun v hv => Lo.range_since (Lo.range_since RG3.out S.out (show w.heap.size + 1 < W.heap.size by omega)) hv (Nat.lt_of_lt_of_le (show w.heap.size + 1 < W.heap.size by omega) S.out.size)) ?_; (try simp only [Act.eval, Act.put, Lk.Va.val, Lk.Va.kd, List.setIfInBounds_toArray, List.set_cons_succ, List.set_cons_zero, Array.getD_eq_getD_getElem?, List.getElem?_toArray, List.getElem?_cons_succ, List.getElem?_cons_zero, Option.getD_some]))
    | (refine Lk.sCallV rfl rfl rfl 10 [.tmp _] _ rfl (callsEnter 10 Try.f10 _ (by kernel_rfl) (by kernel_rfl) rfl) rfl [.agg #[.float .f32 a3_0, .float .f32 a3_1, .float .f32 a3_2, .float .f32 a3_3]] rfl (.agg #[.float .f32 a3_0, .float .f32 a3_1, .float .f32 a3_2, .float .f32 a3_3]) (fun v _ _ => HTO3.out v) ?_; (try simp only [Act.eval, Act.put, Lk.Va.val, Lk.Va.kd, List.setIfInBounds_toArray, List.set_cons_succ, List.set_cons_zero, Array.getD_eq_getD_getElem?, List.getElem?_toArray, List.getElem?_cons_succ, List.getElem?_cons_zero, Option.getD_some]))
    | (refine Lk.sCallK rfl rfl (of_decide_eq_true rfl) 12 [.tmp _, .tmp _, .tmp _, .tmp _, .tmp _] _ rfl (callsEnter 12 Try.f12 _ (by kernel_rfl) (by kernel_rfl) rfl) rfl [.agg #[.float .f32 a0_0, .float .f32 a0_1, .float .f32 a0_2, .float .f32 a0_3, .float .f32 a0_4], .int .i64 a1, .bool a2, .agg #[.float .f32 a3_0, .float .f32 a3_1, .float .f32 a3_2, .float .f32 a3_3], .slice (some ⟨v4.heap.size, 0, none⟩) n4 n4] rfl (Lk.plmK v5.heap.size rn0 rf0 rs1 rb2) rfl (fun v hv hN => (HIM.out v _ (((LV.out.1.1).since hv).readF)).mono fun e v' h => Lk.plm_of hN h) ?_; (try simp only [Act.eval, Act.put, Lk.Va.val, Lk.Va.kd, List.setIfInBounds_toArray, List.set_cons_succ, List.set_cons_zero, Array.getD_eq_getD_getElem?, List.getElem?_toArray, List.getElem?_cons_succ, List.getElem?_cons_zero, Option.getD_some]))
    | (refine Lk.sExtract rfl rfl (of_decide_eq_true rfl) 42 0 rfl (Lk.plmK v5.heap.size rn0 rf0 rs1 rb2) (Lk.feK v5.heap.size rn0 rf0) rfl rfl rfl (fun u S w ⟨p, c, m, e, h1, h2, h3, h4⟩ => ⟨_, _, e, rfl, trivial, p, c, rfl, h1, h2, h4⟩) ?_; (try simp only [Act.eval, Act.put, Lk.Va.val, Lk.Va.kd, List.setIfInBounds_toArray, List.set_cons_succ, List.set_cons_zero, Array.getD_eq_getD_getElem?, List.getElem?_toArray, List.getElem?_cons_succ, List.getElem?_cons_zero, Option.getD_some]))
    | (refine Lk.sExtract rfl rfl (of_decide_eq_true rfl) 42 1 rfl (Lk.plmK v5.heap.size rn0 rf0 rs1 rb2) (Lk.mK rs1) rfl rfl rfl (fun u S w ⟨p, c, m, e, h1, h2, h3, h4⟩ => ⟨_, _, e, rfl, trivial, m, rfl, h3⟩) ?_; (try simp only [Act.eval, Act.put, Lk.Va.val, Lk.Va.kd, List.setIfInBounds_toArray, List.set_cons_succ, List.set_cons_zero, Array.getD_eq_getD_getElem?, List.getElem?_toArray, List.getElem?_cons_succ, List.getElem?_cons_zero, Option.getD_some]))
    | (refine Lk.sExtractV rfl rfl rfl 42 2 rfl (Lk.plmK v5.heap.size rn0 rf0 rs1 rb2) rfl (.bool rb2) (fun u S w ⟨p, c, m, e, h1, h2, h3, h4⟩ => ⟨_, e, rfl⟩) ?_; (try simp only [Act.eval, Act.put, Lk.Va.val, Lk.Va.kd, List.setIfInBounds_toArray, List.set_cons_succ, List.set_cons_zero, Array.getD_eq_getD_getElem?, List.getElem?_toArray, List.getElem?_cons_succ, List.getElem?_cons_zero, Option.getD_some]))
    | (refine Lk.sAlloc rfl rfl (of_decide_eq_true rfl) 28 rfl 28 [.float .f32 0, .float .f32 0, .float .f32 0, .float .f32 0] (fun v => by go_simp) ?_; (try simp only [Act.eval, Act.put, Lk.Va.val, Lk.Va.kd, List.setIfInBounds_toArray, List.set_cons_succ, List.set_cons_zero, Array.getD_eq_getD_getElem?, List.getElem?_toArray, List.getElem?_cons_succ, List.getElem?_cons_zero, Option.getD_some]))
    | (refine Lk.sStoreK rfl 28 16 52 rfl rfl 28 (· = _) (Lk.isMem rs1) rfl (Lk.mK rs1) rfl 4 (fun cs h => by rw [h]; rfl) (by kernel_rfl) (fun u S w ⟨m, e, h⟩ => ⟨_, e, rfl, ⟨m.a, m.b, m.c, m.d, rfl, h⟩, by simp [Value.oneCell']⟩) ?_; (try simp only [Act.eval, Act.put, Lk.Va.val, Lk.Va.kd, List.setIfInBounds_toArray, List.set_cons_succ, List.set_cons_zero, Array.getD_eq_getD_getElem?, List.getElem?_toArray, List.getElem?_cons_succ, List.getElem?_cons_zero, Option.getD_some]))
    | (refine Lk.sMove rfl rfl rfl rfl _ (.inl rfl) ?_; simp only [Act.eval, Act.put, Lk.Va.val, Lk.Va.kd, List.setIfInBounds_toArray, List.set_cons_succ, List.set_cons_zero, Array.getD_eq_getD_getElem?, List.getElem?_toArray, List.getElem?_cons_succ, List.getElem?_cons_zero, Option.getD_some])
    | (refine Lk.sMove rfl rfl rfl rfl _ (.inr rfl) ?_; simp only [Act.eval, Act.put, Lk.Va.val, Lk.Va.kd, List.setIfInBounds_toArray, List.set_cons_succ, List.set_cons_zero, Array.getD_eq_getD_getElem?, List.getElem?_toArray, List.getElem?_cons_succ, List.getElem?_cons_zero, Option.getD_some])
    | (refine Lk.sCopy rfl rfl (of_decide_eq_true rfl) _ (.inl rfl) _ rfl rfl ?_; simp only [Act.eval, Act.put, Lk.Va.val, Lk.Va.kd, List.setIfInBounds_toArray, List.set_cons_succ, List.set_cons_zero, Array.getD_eq_getD_getElem?, List.getElem?_toArray, List.getElem?_cons_succ, List.getElem?_cons_zero, Option.getD_some])
    | (refine Lk.sCopy rfl rfl (of_decide_eq_true rfl) _ (.inr rfl) _ rfl rfl ?_; simp only [Act.eval, Act.put, Lk.Va.val, Lk.Va.kd, List.setIfInBounds_toArray, List.set_cons_succ, List.set_cons_zero, Array.getD_eq_getD_getElem?, List.getElem?_toArray, List.getElem?_cons_succ, List.getElem?_cons_zero, Option.getD_some])
    | (refine Lk.sQuiet rfl rfl rfl rfl rfl (fun K hK => ?_); go_big_quiet_op; (refine hK _ ?_; clear hK K)))
  refine Lk.wpK_nil ?_
  refine Lk.After.apart 16 15 _ _ rfl rfl rfl (by decide) ?_
  refine Lk.After.slot 15 _ rfl ?_; intro u15 _; simp only [Act.eval, Act.put, Lk.Va.val, Lk.Va.kd, List.setIfInBounds_toArray, List.set_cons_succ, List.set_cons_zero, Array.getD_eq_getD_getElem?, List.getElem?_toArray, List.getElem?_cons_succ, List.getElem?_cons_zero, Option.getD_some]
  refine Lk.After.slot 16 _ rfl ?_; intro u16 _; simp only [Act.eval, Act.put, Lk.Va.val, Lk.Va.kd, List.setIfInBounds_toArray, List.set_cons_succ, List.set_cons_zero, Array.getD_eq_getD_getElem?, List.getElem?_toArray, List.getElem?_cons_succ, List.getElem?_cons_zero, Option.getD_some]
  refine Lk.After.slot 50 _ rfl ?_; intro u50 _; simp only [Act.eval, Act.put, Lk.Va.val, Lk.Va.kd, List.setIfInBounds_toArray, List.set_cons_succ, List.set_cons_zero, Array.getD_eq_getD_getElem?, List.getElem?_toArray, List.getElem?_cons_succ, List.getElem?_cons_zero, Option.getD_some]
  refine Lk.After.slot 42 _ rfl ?_; intro u42 _; simp only [Act.eval, Act.put, Lk.Va.val, Lk.Va.kd, List.setIfInBounds_toArray, List.set_cons_succ, List.set_cons_zero, Array.getD_eq_getD_getElem?, List.getElem?_toArray, List.getElem?_cons_succ, List.getElem?_cons_zero, Option.getD_some]
  refine Lk.After.slot 52 _ rfl ?_; intro u52 _; simp only [Act.eval, Act.put, Lk.Va.val, Lk.Va.kd, List.setIfInBounds_toArray, List.set_cons_succ, List.set_cons_zero, Array.getD_eq_getD_getElem?, List.getElem?_toArray, List.getElem?_cons_succ, List.getElem?_cons_zero, Option.getD_some]
  refine Lk.After.slot 51 _ rfl ?_; intro u51 _; simp only [Act.eval, Act.put, Lk.Va.val, Lk.Va.kd, List.setIfInBounds_toArray, List.set_cons_succ, List.set_cons_zero, Array.getD_eq_getD_getElem?, List.getElem?_toArray, List.getElem?_cons_succ, List.getElem?_cons_zero, Option.getD_some]
  refine Lk.After.end_ [15, 16, 50, 42, 52, 51] (by repeat (first | exact Lk.nbut.start | refine Lk.nbut.upd (by simp) ?_)) rfl ?_
  intro fpK wK hwK
  intro hK51 hB51 hX51
  intro hK52 hB52 hX52
  intro hK42 hB42 hX42
  intro hK50 hB50 hX50
  intro hK16 hB16 hX16
  intro hK15 hB15 hX15
  intro hA16_15
  obtain ⟨g0, kg0, rfl, hng0, hfg0, heg0⟩ := hK15
  obtain ⟨bg, cb, rfl, ⟨g1_0, g1_1, g1_2, g1_3, rfl, hvg1⟩, hSb, hGb⟩ := Lk.box_ge hK16 hB16 (hX16 rfl)
  have LV' := Lib.hid (He.new2 LV.out hwK hGb (heg0.ge hB15) (Lk.box_de hSb hA16_15 heg0) S.out.size); clear LV; have LV := LV'; clear LV'
  have S' := Lib.hid (since_step S.out hwK); clear S; have S := S'; clear S'
  have Kg0 := Lib.hid hfg0; have Ng0 := Lib.hid hng0; have HVg1 := Lib.hid hvg1
  clear hK50 hB50 hX50 hK42 hB42 hX42 hK52 hB52 hX52 hK51 hB51 hX51 hB15 hX15 hB16 hX16 hK16 hA16_15 hSb hGb hfg0 hng0 hvg1 heg0 hwK
  clear fpK
  obtain ⟨v8, hV⟩ : ∃ v, v = wK := ⟨_, rfl⟩; rw [← hV] at S LV ⊢; clear hV wK
  go_wp2_with fail
  go_at_call 13
  refine (eqL_any g0 w0 _ _ _ _ (LV.out.2.1.1).readF (LV.out.2.2.2.2.1.1).readF (by rw [Ng0.out]; exact hr0) (Nw0.out.trans Ng0.out.symm) Kg0.out Kw0.out).mono ?_
  rintro e v9 ⟨rfl, hs⟩
  have S' := Lib.hid (since_step S.out hs); clear S; have S := S'; clear S'
  have LV' := Lib.hid (LV.out.since hs); clear LV; have LV := LV'; clear LV'
  clear hs
  have bg1_0 : v9.cell? ⟨bg, 0, none⟩ = some (.float .f32 g1_0) := (LV.out.1.1).box 0 (by simp)
  have bg1_1 : v9.cell? ⟨bg, 1, none⟩ = some (.float .f32 g1_1) := (LV.out.1.1).box 1 (by simp)
  have bg1_2 : v9.cell? ⟨bg, 2, none⟩ = some (.float .f32 g1_2) := (LV.out.1.1).box 2 (by simp)
  have bg1_3 : v9.cell? ⟨bg, 3, none⟩ = some (.float .f32 g1_3) := (LV.out.1.1).box 3 (by simp)
  have bw1_0 : v9.cell? ⟨bw, 0, none⟩ = some (.float .f32 w1_0) := (LV.out.2.2.2.1.1).box 0 (by simp)
  have bw1_1 : v9.cell? ⟨bw, 1, none⟩ = some (.float .f32 w1_1) := (LV.out.2.2.2.1.1).box 1 (by simp)
  have bw1_2 : v9.cell? ⟨bw, 2, none⟩ = some (.float .f32 w1_2) := (LV.out.2.2.2.1.1).box 2 (by simp)
  have bw1_3 : v9.cell? ⟨bw, 3, none⟩ = some (.float .f32 w1_3) := (LV.out.2.2.2.1.1).box 3 (by simp)
  go_wp2_with fail
  go_at_call 14
  refine (eqMemory_any ⟨g1_0, g1_1, g1_2, g1_3⟩ ⟨w1_0, w1_1, w1_2, w1_3⟩ _ _ HVg1.out HVw1.out).mono ?_
  rintro e v10 ⟨rfl, hs⟩
  clear bg1_0 bg1_1 bg1_2 bg1_3 bw1_0 bw1_1 bw1_2 bw1_3
  have S' := Lib.hid (since_step S.out hs); clear S; have S := S'; clear S'
  have LV' := Lib.hid (LV.out.since hs); clear LV; have LV := LV'; clear LV'
  clear hs
  go_wp2_with fail
  go_at_call 11
  refine (toFE_any A4 n4 c4 x4 W _ F4.out S.out hn4).mono ?_
  rintro e v11 ⟨rfl, hg, hs⟩
  have LV' := Lib.hid (LV.out.new hs hg S.out.size); clear LV; have LV := LV'; clear LV'
  have S' := Lib.hid (since_step S.out hs); clear S; have S := S'; clear S'
  clear hs hg
  go_wp2_with fail
  go_at_call 13
  refine (eqL_any ⟨some ⟨v4.heap.size, 0, none⟩, n4, x4⟩ ⟨some ⟨v10.heap.size, 0, none⟩, n4, x4⟩ _ _ _ _ (LV.out.2.2.2.1.1).readF (LV.out.1.1).readF (by omega) rfl (fun _ _ => rfl) (fun _ _ => rfl)).mono ?_
  rintro e v12 ⟨rfl, hs⟩
  have S' := Lib.hid (since_step S.out hs); clear S; have S := S'; clear S'
  have LV' := Lib.hid (LV.out.since hs); clear LV; have LV := LV'; clear LV'
  clear hs
  have LV' := Lib.hid LV.out.2; clear LV; have LV := LV'; clear LV'
  go_wp2_with fail
  go_at_call 15
  refine (markFE_any (some ⟨v4.heap.size, 0, none⟩) n4 x4 _ (1) _ _ _ _ (He.front [_, _] LV.out) (hn4) (by have := Ng0.out; omega) (by first | rfl | omega | (push_cast; omega))).mono ?_
  rintro e v13 ⟨rfl, hlv, hs⟩
  have LV' := Lib.hid hlv; clear LV hlv; have LV := LV'; clear LV'
  have S' := Lib.hid (since_mark S.out hs); clear S hs; have S := S'; clear S'
  go_wp2_with fail
  go_at_call 13
  refine (eqL_any g0 w0 _ _ _ _ (LV.out.2.2.1.1).readF (LV.out.2.2.2.2.1.1).readF (by rw [Ng0.out]; exact hr0) (Nw0.out.trans Ng0.out.symm) Kg0.out Kw0.out).mono ?_
  rintro e v14 ⟨rfl, hs⟩
  have S' := Lib.hid (since_step S.out hs); clear S; have S := S'; clear S'
  have LV' := Lib.hid (LV.out.since hs); clear LV; have LV := LV'; clear LV'
  clear hs
  have bg1_0 : v14.cell? ⟨bg, 0, none⟩ = some (.float .f32 g1_0) := (LV.out.2.1.1).box 0 (by simp)
  have bg1_1 : v14.cell? ⟨bg, 1, none⟩ = some (.float .f32 g1_1) := (LV.out.2.1.1).box 1 (by simp)
  have bg1_2 : v14.cell? ⟨bg, 2, none⟩ = some (.float .f32 g1_2) := (LV.out.2.1.1).box 2 (by simp)
  have bg1_3 : v14.cell? ⟨bg, 3, none⟩ = some (.float .f32 g1_3) := (LV.out.2.1.1).box 3 (by simp)
  have bw1_0 : v14.cell? ⟨bw, 0, none⟩ = some (.float .f32 w1_0) := (LV.out.2.2.2.1.1).box 0 (by simp)
  have bw1_1 : v14.cell? ⟨bw, 1, none⟩ = some (.float .f32 w1_1) := (LV.out.2.2.2.1.1).box 1 (by simp)
  have bw1_2 : v14.cell? ⟨bw, 2, none⟩ = some (.float .f32 w1_2) := (LV.out.2.2.2.1.1).box 2 (by simp)
  have bw1_3 : v14.cell? ⟨bw, 3, none⟩ = some (.float .f32 w1_3) := (LV.out.2.2.2.1.1).box 3 (by simp)
  go_wp2_with fail
  go_at_call 14
  refine (eqMemory_any ⟨g1_0, g1_1, g1_2, g1_3⟩ ⟨w1_0, w1_1, w1_2, w1_3⟩ _ _ HVg1.out HVw1.out).mono ?_
  rintro e v15 ⟨rfl, hs⟩
  clear bg1_0 bg1_1 bg1_2 bg1_3 bw1_0 bw1_1 bw1_2 bw1_3
  have S' := Lib.hid (since_step S.out hs); clear S; have S := S'; clear S'
  have LV' := Lib.hid (LV.out.since hs); clear LV; have LV := LV'; clear LV'
  clear hs
  go_wp2_with fail
  go_at_call 15
  refine (markFE_any g0.A g0.n g0.xs _ (1) _ _ _ _ (He.front [_, _] LV.out) (by rw [Ng0.out]; exact hr0) (by have := Ng0.out; omega) (by first | rfl | omega | (push_cast; omega))).mono ?_
  rintro e v16 ⟨rfl, hlv, hs⟩
  have LV' := Lib.hid hlv; clear LV hlv; have LV := LV'; clear LV'
  have S' := Lib.hid (since_mark S.out hs); clear S hs; have S := S'; clear S'
  go_wp2_with fail
  go_at_call 16
  refine (heldFE_any g0.A g0.n _ (1) _ _ _ ((LV.out.1.1)) (by rw [Ng0.out]; exact hr0) (by have := Ng0.out; omega) (by first | rfl | omega | (push_cast; omega))).mono ?_
  rintro e v ⟨rfl, rfl⟩
  go_wp2_with fail
  refine Lk.wp_k (by kernel_rfl) (by kernel_rfl) (by kernel_rfl) ?_
  repeat (first
    | (refine Lk.sRow rfl rfl rfl rfl 24 _ rfl (w.heap.size) 0 rfl [.float .f32 a0_0, .float .f32 a0_1, .float .f32 a0_2, .float .f32 a0_3, .float .f32 a0_4] _ Try.underlying24 rfl (by kernel_rfl) (fun v hv => Lo.range_since (Lo.range_since RG0.out S.out (show w.heap.size < W.heap.size by omega)) hv (Nat.lt_of_lt_of_le (show w.heap.size < W.heap.size by omega) S.out.size)) ?_; (try simp only [Act.eval, Act.put, Lk.Va.val, Lk.Va.kd, List.setIfInBounds_toArray, List.set_cons_succ, List.set_cons_zero, Array.getD_eq_getD_getElem?, List.getElem?_toArray, List.getElem?_cons_succ, List.getElem?_cons_zero, Option.getD_some]))
    | (refine Lk.sCallV rfl rfl rfl 9 [.tmp _] _ rfl (callsEnter 9 Try.f9 _ (by kernel_rfl) (by kernel_rfl) rfl) rfl [.agg #[.float .f32 a0_0, .float .f32 a0_1, .float .f32 a0_2, .float .f32 a0_3, .float .f32 a0_4]] rfl (.agg #[.float .f32 a0_0, .float .f32 a0_1, .float .f32 a0_2, .float .f32 a0_3, .float .f32 a0_4]) (fun v _ _ => HTO0.out v) ?_; (try simp only [Act.eval, Act.put, Lk.Va.val, Lk.Va.kd, List.setIfInBounds_toArray, List.set_cons_succ, List.set_cons_zero, Array.getD_eq_getD_getElem?, List.getElem?_toArray, List.getElem?_cons_succ, List.getElem?_cons_zero, Option.getD_some]))
    | (refine Lk.sRow rfl rfl rfl rfl 26 _ rfl (w.heap.size + 1) 0 rfl [.float .f32 a3_0, .float .f32 a3_1, .float .f32 a3_2, .float .f32 a3_3] _ Try.underlying26 rfl (by kernel_rfl) (fun v hv => Lo.range_since (Lo.range_since RG3.out S.out (show w.heap.size + 1 < W.heap.size by omega)) hv (Nat.lt_of_lt_of_le (show w.heap.size + 1 < W.heap.size by omega) S.out.size)) ?_; (try simp only [Act.eval, Act.put, Lk.Va.val, Lk.Va.kd, List.setIfInBounds_toArray, List.set_cons_succ, List.set_cons_zero, Array.getD_eq_getD_getElem?, List.getElem?_toArray, List.getElem?_cons_succ, List.getElem?_cons_zero, Option.getD_some]))
    | (refine Lk.sCallV rfl rfl rfl 10 [.tmp _] _ rfl (callsEnter 10 Try.f10 _ (by kernel_rfl) (by kernel_rfl) rfl) rfl [.agg #[.float .f32 a3_0, .float .f32 a3_1, .float .f32 a3_2, .float .f32 a3_3]] rfl (.agg #[.float .f32 a3_0, .float .f32 a3_1, .float .f32 a3_2, .float .f32 a3_3]) (fun v _ _ => HTO3.out v) ?_; (try simp only [Act.eval, Act.put, Lk.Va.val, Lk.Va.kd, List.setIfInBounds_toArray, List.set_cons_succ, List.set_cons_zero, Array.getD_eq_getD_getElem?, List.getElem?_toArray, List.getElem?_cons_succ, List.getElem?_cons_zero, Option.getD_some]))
    | (refine Lk.sCallK rfl rfl (of_decide_eq_true rfl) 11 [.tmp _] _ rfl (callsEnter 11 Try.f11 _ (by kernel_rfl) (by kernel_rfl) rfl) rfl [.slice A4 n4 c4] rfl (Lk.xK v16.heap.size n4 x4) rfl (fun v hv hN => (toFE_any A4 n4 c4 x4 W v F4.out (since_step S.out hv) hn4).mono fun e v' ⟨he, hg, hs⟩ => ⟨_, _, he, trivial, ⟨_, rfl, Lk.EnK.of hg hN⟩, hs, hg.2.2⟩) ?_; (try simp only [Act.eval, Act.put, Lk.Va.val, Lk.Va.kd, List.setIfInBounds_toArray, List.set_cons_succ, List.set_cons_zero, Array.getD_eq_getD_getElem?, List.getElem?_toArray, List.getElem?_cons_succ, List.getElem?_cons_zero, Option.getD_some]))
    | (refine Lk.sCall1 rfl rfl (of_decide_eq_true rfl) 12 [.tmp _, .tmp _, .tmp _, .tmp _, .tmp 115] _ rfl (callsEnter 12 Try.f12 _ (by kernel_rfl) (by kernel_rfl) rfl) 115 (by simp) (Lk.xK v16.heap.size n4 x4) rfl (fun u => [.agg #[.float .f32 a0_0, .float .f32 a0_1, .float .f32 a0_2, .float .f32 a0_3, .float .f32 a0_4], .int .i64 a1, .bool a2, .agg #[.float .f32 a3_0, .float .f32 a3_1, .float .f32 a3_2, .float .f32 a3_3], u]) (fun b => rfl) (Lk.plmK v16.heap.size rn0 rf0 rs1 rb2) rfl (fun u S v hv hN hu => (by obtain ⟨B, rfl, hE⟩ := hu; exact (HIM.out v B hE.readF).mono fun e v' h => Lk.plm_of hN h)) ?_; (try simp only [Act.eval, Act.put, Lk.Va.val, Lk.Va.kd, List.setIfInBounds_toArray, List.set_cons_succ, List.set_cons_zero, Array.getD_eq_getD_getElem?, List.getElem?_toArray, List.getElem?_cons_succ, List.getElem?_cons_zero, Option.getD_some]))
    | (refine Lk.sExtract rfl rfl (of_decide_eq_true rfl) 107 0 rfl (Lk.plmK v16.heap.size rn0 rf0 rs1 rb2) (Lk.feK v16.heap.size rn0 rf0) rfl rfl rfl (fun u S w ⟨p, c, m, e, h1, h2, h3, h4⟩ => ⟨_, _, e, rfl, trivial, p, c, rfl, h1, h2, h4⟩) ?_; (try simp only [Act.eval, Act.put, Lk.Va.val, Lk.Va.kd, List.setIfInBounds_toArray, List.set_cons_succ, List.set_cons_zero, Array.getD_eq_getD_getElem?, List.getElem?_toArray, List.getElem?_cons_succ, List.getElem?_cons_zero, Option.getD_some]))
    | (refine Lk.sExtract rfl rfl (of_decide_eq_true rfl) 107 1 rfl (Lk.plmK v16.heap.size rn0 rf0 rs1 rb2) (Lk.mK rs1) rfl rfl rfl (fun u S w ⟨p, c, m, e, h1, h2, h3, h4⟩ => ⟨_, _, e, rfl, trivial, m, rfl, h3⟩) ?_; (try simp only [Act.eval, Act.put, Lk.Va.val, Lk.Va.kd, List.setIfInBounds_toArray, List.set_cons_succ, List.set_cons_zero, Array.getD_eq_getD_getElem?, List.getElem?_toArray, List.getElem?_cons_succ, List.getElem?_cons_zero, Option.getD_some]))
    | (refine Lk.sExtractV rfl rfl rfl 107 2 rfl (Lk.plmK v16.heap.size rn0 rf0 rs1 rb2) rfl (.bool rb2) (fun u S w ⟨p, c, m, e, h1, h2, h3, h4⟩ => ⟨_, e, rfl⟩) ?_; (try simp only [Act.eval, Act.put, Lk.Va.val, Lk.Va.kd, List.setIfInBounds_toArray, List.set_cons_succ, List.set_cons_zero, Array.getD_eq_getD_getElem?, List.getElem?_toArray, List.getElem?_cons_succ, List.getElem?_cons_zero, Option.getD_some]))
    | (refine Lk.sAlloc rfl rfl (of_decide_eq_true rfl) 28 rfl 28 [.float .f32 0, .float .f32 0, .float .f32 0, .float .f32 0] (fun v => by go_simp) ?_; (try simp only [Act.eval, Act.put, Lk.Va.val, Lk.Va.kd, List.setIfInBounds_toArray, List.set_cons_succ, List.set_cons_zero, Array.getD_eq_getD_getElem?, List.getElem?_toArray, List.getElem?_cons_succ, List.getElem?_cons_zero, Option.getD_some]))
    | (refine Lk.sStoreK rfl 28 22 118 rfl rfl 28 (· = _) (Lk.isMem rs1) rfl (Lk.mK rs1) rfl 4 (fun cs h => by rw [h]; rfl) (by kernel_rfl) (fun u S w ⟨m, e, h⟩ => ⟨_, e, rfl, ⟨m.a, m.b, m.c, m.d, rfl, h⟩, by simp [Value.oneCell']⟩) ?_; (try simp only [Act.eval, Act.put, Lk.Va.val, Lk.Va.kd, List.setIfInBounds_toArray, List.set_cons_succ, List.set_cons_zero, Array.getD_eq_getD_getElem?, List.getElem?_toArray, List.getElem?_cons_succ, List.getElem?_cons_zero, Option.getD_some]))
    | (refine Lk.sMove rfl rfl rfl rfl _ (.inl rfl) ?_; simp only [Act.eval, Act.put, Lk.Va.val, Lk.Va.kd, List.setIfInBounds_toArray, List.set_cons_succ, List.set_cons_zero, Array.getD_eq_getD_getElem?, List.getElem?_toArray, List.getElem?_cons_succ, List.getElem?_cons_zero, Option.getD_some])
    | (refine Lk.sMove rfl rfl rfl rfl _ (.inr rfl) ?_; simp only [Act.eval, Act.put, Lk.Va.val, Lk.Va.kd, List.setIfInBounds_toArray, List.set_cons_succ, List.set_cons_zero, Array.getD_eq_getD_getElem?, List.getElem?_toArray, List.getElem?_cons_succ, List.getElem?_cons_zero, Option.getD_some])
    | (refine Lk.sCopy rfl rfl (of_decide_eq_true rfl) _ (.inl rfl) _ rfl rfl ?_; simp only [Act.eval, Act.put, Lk.Va.val, Lk.Va.kd, List.setIfInBounds_toArray, List.set_cons_succ, List.set_cons_zero, Array.getD_eq_getD_getElem?, List.getElem?_toArray, List.getElem?_cons_succ, List.getElem?_cons_zero, Option.getD_some])
    | (refine Lk.sCopy rfl rfl (of_decide_eq_true rfl) _ (.inr rfl) _ rfl rfl ?_; simp only [Act.eval, Act.put, Lk.Va.val, Lk.Va.kd, List.setIfInBounds_toArray, List.set_cons_succ, List.set_cons_zero, Array.getD_eq_getD_getElem?, List.getElem?_toArray, List.getElem?_cons_succ, List.getElem?_cons_zero, Option.getD_some])
    | (refine Lk.sQuiet rfl rfl rfl rfl rfl (fun K hK => ?_); go_big_quiet_op; (refine hK _ ?_; clear hK K)))
  refine Lk.wpK_nil ?_
  refine Lk.After.apart 22 21 _ _ rfl rfl rfl (by decide) ?_
  refine Lk.After.slot 21 _ rfl ?_; intro u21 _; simp only [Act.eval, Act.put, Lk.Va.val, Lk.Va.kd, List.setIfInBounds_toArray, List.set_cons_succ, List.set_cons_zero, Array.getD_eq_getD_getElem?, List.getElem?_toArray, List.getElem?_cons_succ, List.getElem?_cons_zero, Option.getD_some]
  refine Lk.After.slot 22 _ rfl ?_; intro u22 _; simp only [Act.eval, Act.put, Lk.Va.val, Lk.Va.kd, List.setIfInBounds_toArray, List.set_cons_succ, List.set_cons_zero, Array.getD_eq_getD_getElem?, List.getElem?_toArray, List.getElem?_cons_succ, List.getElem?_cons_zero, Option.getD_some]
  refine Lk.After.slot 115 _ rfl ?_; intro u115 _; simp only [Act.eval, Act.put, Lk.Va.val, Lk.Va.kd, List.setIfInBounds_toArray, List.set_cons_succ, List.set_cons_zero, Array.getD_eq_getD_getElem?, List.getElem?_toArray, List.getElem?_cons_succ, List.getElem?_cons_zero, Option.getD_some]
  refine Lk.After.slot 116 _ rfl ?_; intro u116 _; simp only [Act.eval, Act.put, Lk.Va.val, Lk.Va.kd, List.setIfInBounds_toArray, List.set_cons_succ, List.set_cons_zero, Array.getD_eq_getD_getElem?, List.getElem?_toArray, List.getElem?_cons_succ, List.getElem?_cons_zero, Option.getD_some]
  refine Lk.After.slot 107 _ rfl ?_; intro u107 _; simp only [Act.eval, Act.put, Lk.Va.val, Lk.Va.kd, List.setIfInBounds_toArray, List.set_cons_succ, List.set_cons_zero, Array.getD_eq_getD_getElem?, List.getElem?_toArray, List.getElem?_cons_succ, List.getElem?_cons_zero, Option.getD_some]
  refine Lk.After.slot 118 _ rfl ?_; intro u118 _; simp only [Act.eval, Act.put, Lk.Va.val, Lk.Va.kd, List.setIfInBounds_toArray, List.set_cons_succ, List.set_cons_zero, Array.getD_eq_getD_getElem?, List.getElem?_toArray, List.getElem?_cons_succ, List.getElem?_cons_zero, Option.getD_some]
  refine Lk.After.slot 117 _ rfl ?_; intro u117 _; simp only [Act.eval, Act.put, Lk.Va.val, Lk.Va.kd, List.setIfInBounds_toArray, List.set_cons_succ, List.set_cons_zero, Array.getD_eq_getD_getElem?, List.getElem?_toArray, List.getElem?_cons_succ, List.getElem?_cons_zero, Option.getD_some]
  refine Lk.After.end_ [21, 22, 115, 116, 107, 118, 117] (by repeat (first | exact Lk.nbut.start | refine Lk.nbut.upd (by simp) ?_)) rfl ?_
  intro fpK wK hwK
  intro hK117 hB117 hX117
  intro hK118 hB118 hX118
  intro hK107 hB107 hX107
  intro hK116 hB116 hX116
  intro hK115 hB115 hX115
  intro hK22 hB22 hX22
  intro hK21 hB21 hX21
  intro hA22_21
  obtain ⟨h0, kh0, rfl, hnh0, hfh0, heh0⟩ := hK21
  obtain ⟨bh, cb, rfl, ⟨h1_0, h1_1, h1_2, h1_3, rfl, hvh1⟩, hSb, hGb⟩ := Lk.box_ge hK22 hB22 (hX22 rfl)
  have LV' := Lib.hid (He.new2 LV.out hwK hGb (heh0.ge hB21) (Lk.box_de hSb hA22_21 heh0) S.out.size); clear LV; have LV := LV'; clear LV'
  have S' := Lib.hid (since_step S.out hwK); clear S; have S := S'; clear S'
  have Kh0 := Lib.hid hfh0; have Nh0 := Lib.hid hnh0; have HVh1 := Lib.hid hvh1
  clear hK115 hB115 hX115 hK116 hB116 hX116 hK107 hB107 hX107 hK118 hB118 hX118 hK117 hB117 hX117 hB21 hX21 hB22 hX22 hK22 hA22_21 hSb hGb hfh0 hnh0 hvh1 heh0 hwK
  clear fpK
  obtain ⟨v20, hV⟩ : ∃ v, v = wK := ⟨_, rfl⟩; rw [← hV] at S LV ⊢; clear hV wK
  go_wp2_with fail
  go_at_call 13
  refine (eqL_any h0 w0 _ _ _ _ (LV.out.2.1.1).readF (LV.out.2.2.2.2.2.2.1.1).readF (by rw [Nh0.out]; exact hr0) (Nw0.out.trans Nh0.out.symm) Kh0.out Kw0.out).mono ?_
  rintro e v21 ⟨rfl, hs⟩
  have S' := Lib.hid (since_step S.out hs); clear S; have S := S'; clear S'
  have LV' := Lib.hid (LV.out.since hs); clear LV; have LV := LV'; clear LV'
  clear hs
  have bh1_0 : v21.cell? ⟨bh, 0, none⟩ = some (.float .f32 h1_0) := (LV.out.1.1).box 0 (by simp)
  have bh1_1 : v21.cell? ⟨bh, 1, none⟩ = some (.float .f32 h1_1) := (LV.out.1.1).box 1 (by simp)
  have bh1_2 : v21.cell? ⟨bh, 2, none⟩ = some (.float .f32 h1_2) := (LV.out.1.1).box 2 (by simp)
  have bh1_3 : v21.cell? ⟨bh, 3, none⟩ = some (.float .f32 h1_3) := (LV.out.1.1).box 3 (by simp)
  have bw1_0 : v21.cell? ⟨bw, 0, none⟩ = some (.float .f32 w1_0) := (LV.out.2.2.2.2.2.1.1).box 0 (by simp)
  have bw1_1 : v21.cell? ⟨bw, 1, none⟩ = some (.float .f32 w1_1) := (LV.out.2.2.2.2.2.1.1).box 1 (by simp)
  have bw1_2 : v21.cell? ⟨bw, 2, none⟩ = some (.float .f32 w1_2) := (LV.out.2.2.2.2.2.1.1).box 2 (by simp)
  have bw1_3 : v21.cell? ⟨bw, 3, none⟩ = some (.float .f32 w1_3) := (LV.out.2.2.2.2.2.1.1).box 3 (by simp)
  go_wp2_with fail
  go_at_call 14
  refine (eqMemory_any ⟨h1_0, h1_1, h1_2, h1_3⟩ ⟨w1_0, w1_1, w1_2, w1_3⟩ _ _ HVh1.out HVw1.out).mono ?_
  rintro e v22 ⟨rfl, hs⟩
  clear bh1_0 bh1_1 bh1_2 bh1_3 bw1_0 bw1_1 bw1_2 bw1_3
  have S' := Lib.hid (since_step S.out hs); clear S; have S := S'; clear S'
  have LV' := Lib.hid (LV.out.since hs); clear LV; have LV := LV'; clear LV'
  clear hs
  go_wp2_with fail
  go_at_call 16
  refine (heldFE_any g0.A g0.n _ (1) _ _ _ ((LV.out.2.2.1.1)) (by rw [Ng0.out]; exact hr0) (by have := Ng0.out; omega) (by first | rfl | omega | (push_cast; omega))).mono ?_
  rintro e v ⟨rfl, rfl⟩
  go_wp2_with fail
  go_ret
  exact ⟨rfl, S0.out.trans (since_mono S.out (show w.heap.size ≤ W.heap.size by omega))⟩
set_option maxHeartbeats 2000000 in
set_option maxRecDepth 100000 in
theorem lawRunFilter_big (a0 : FilN) (a1 : Int) (a2 : Bool) (a3 : MemN) (A4 : Option Addr) (n4 c4 : Nat) (w : World) (h : 1048576 < n4)
    
    : Calls Try.prog 3 #[a0.val, .int .i64 a1, .bool a2, a3.val, .slice A4 n4 c4] w fun e w' => e = .returned (.bool true) ∧ w.Since w.heap.size w' := by
  obtain ⟨a0_0, a0_1, a0_2, a0_3, a0_4⟩ := a0
  simp only [FilN.val]
  obtain ⟨a3_0, a3_1, a3_2, a3_3⟩ := a3
  simp only [MemN.val]
  by_cases b4 : 1048576 < n4
  · have hd4 : decide ((1048576 : Int) < n4) = true := decide_eq_true (by omega)
    go_enter Try.func3, Try.ntmps3
    go_wp2
    go_ret
    exact ⟨rfl, by (repeat (first | (with_reducible refine Fl.sinDrew ?_) | (with_reducible refine World.Since.drew ?_) | (with_reducible refine Fl.sinSet ?_ ?_; rotate_left) | (with_reducible refine Fl.sinAlloc ?_ ?_; rotate_left) | with_reducible exact World.Since.refl _ _ | with_reducible assumption | (with_reducible refine Fl.sinStep (by with_reducible assumption) ?_))); all_goals (first | omega | (simp; done) | (simp; omega) | (simp [go_sem]; done) | (simp [go_sem]; omega))⟩
  · have hd4 : decide ((1048576 : Int) < n4) = false := decide_eq_false (by omega)
    omega
end Go.Proofs.Ytlddppnaakjamaa

/- Filters: the law of one filter over samples. -/
set_option linter.unusedVariables false
set_option linter.unusedSimpArgs false
namespace Go.Proofs.Ytlddppnaakjamaa
open Fl Go.RowKit
theorem lawRunFilter_any (f : FilN) (form : Int) (fu : Bool) (m : MemN) (A4 : Option Addr) (n4 c4 : Nat) (x4 : List Nat) (w : World) (hF : FvF f ⟨ab .f32 f.b0, ab .f32 f.b1, ab .f32 f.b2, ab .f32 f.a1, ab .f32 f.a2⟩) (w1 : (Lit.int .i64 form).wf = true) (hM : FvM m ⟨ab .f32 m.a, ab .f32 m.b, ab .f32 m.c, ab .f32 m.d⟩) (h4 : Fs w w.heap.size A4 n4 x4) (m4 : n4 ≤ 9223372036854775807) :
    Calls Try.prog 3 #[f.val, .int .i64 form, .bool fu, m.val, .slice A4 n4 c4] w fun e w' => e = .returned (.bool true) ∧ w.Since w.heap.size w' := by
  by_cases b : 1048576 < n4
  · exact lawRunFilter_big f form fu m A4 n4 c4 w b
  · by_cases h : inB form 0 2 = true ∧ n4 ≤ 256
    · obtain ⟨k, hk, rfl⟩ : ∃ k : Nat, k ≤ 2 ∧ form = (k : Int) := by
        have := h.1
        simp only [inB, Bool.and_eq_true, decide_eq_true_eq] at this
        exact ⟨form.toNat, by omega, by omega⟩
      exact lawRunFilter_gen f k fu m A4 n4 c4 x4 n4 _ _ true w h4 (by omega) (by omega) (fun v b hb => specRF_ok k hk fu f m _ _ _ n4 n4 x4 v hF hM hb h.2) (fun v b hb => implRF_ok k hk fu f m _ _ _ n4 n4 x4 v hF hM hb h.2)
    · exact lawRunFilter_gen f form fu m A4 n4 c4 x4 0 (fun _ => none) noM false w h4 (by omega) (by omega) (fun v b hb => specRF_no form fu f m _ n4 n4 v h _) (fun v b hb => implRF_no form fu f m _ n4 n4 v h _)
end Go.Proofs.Ytlddppnaakjamaa

