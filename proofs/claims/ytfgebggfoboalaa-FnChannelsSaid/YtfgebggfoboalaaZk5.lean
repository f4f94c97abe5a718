/- Joined: Lk Ll Lm Ln Ta Hi Hj Ae Ma Aa Ab Ac Ad Af Ag La Hv Fu K5 K12 K13 K14 K17 K9 K10 K15 Mm Mn Mo Mp K18 K19 Ih Ii Ij Ik K3 K4 K20 -/
import Derived.Test.YtfgebggfoboalaaZk0
import Derived.Deep.QuietTactic
import Derived.BigQuiet
import Derived.Deep.MidRow
import Derived.Laws.AppendOwnNone
import Derived.Test.YtfgebggfoboalaaDi
import Derived.Test.YtfgebggfoboalaaDr
import Derived.Test.YtfgebggfoboalaaEc
import Derived.Test.YtfgebggfoboalaaEd
import Derived.Test.YtfgebggfoboalaaLf
import Derived.Test.YtfgebggfoboalaaWc
import Derived.Test.YtfgebggfoboalaaFt
import Derived.Test.YtfgebggfoboalaaSc
import Derived.Test.YtfgebggfoboalaaSr
import Derived.Test.YtfgebggfoboalaaFw
import Derived.Test.YtfgebggfoboalaaEe
import Derived.Test.YtfgebggfoboalaaEg
/- Statements whose order is open, and which make memory and store into it: one walk in the order of the text serves every order. Of a slot it is known what it is, or only what is true of it and of the blocks that it speaks of. -/
set_option linter.unusedVariables false
set_option linter.unusedSimpArgs false
namespace Go.Proofs.Ytfgebggfoboalaa
namespace Lk
open Fl Ieee
/-- blocks -/
abbrev Fp := Nat → Prop
/-- what is known of a slot: of its value, of blocks, of a world; bx: these blocks are its own -/
structure Kd where
  p : Value → Fp → World → Prop
  stable : ∀ u S (w w' : World), (∀ g, S g → w'.heap[g]? = w.heap[g]?) → p u S w → p u S w'
  bx : Bool
inductive Va where
  | v (u : Value)
  | k (K : Kd)
def Va.val : Va → Value
  | .v u => u
  | .k _ => undef
def Va.kd : Va → Option Kd
  | .v _ => none
  | .k K => some K
/-- what an operation leaves: in its slot, and of the box into which it stores -/
structure Ef where
  x : Va
  st : Option (Nat × Kd)
def ev (u : Value) : Ef := ⟨.v u, none⟩
structure Fa where
  a : Act
  κ : Nat → Option Kd
def nb : Value → Prop
  | .bool _ => False
  | _ => True
def upd (κ : Nat → Option Kd) (d : Nat) (k : Option Kd) : Nat → Option Kd := fun i => if i = d then k else κ i
def k1 (A : Fa) (dst : Option Tmp) (x : Va) : Nat → Option Kd :=
  match dst with
  | some d => if d < A.a.tmps.size then upd A.κ d x.kd else A.κ
  | none => A.κ
def k2 (κ : Nat → Option Kd) : Option (Nat × Kd) → Nat → Option Kd
  | some q => upd κ q.1 (some q.2)
  | none => κ
def Fa.put (A : Fa) (dst : Option Tmp) (e : Ef) : Fa := ⟨A.a.put dst e.x.val, k2 (k1 A dst e.x) e.st⟩
/-- the box into which an operation stores -/
def stOf (o : Oper) : Option Nat :=
  match o.op with
  | .store _ (.tmp p) _ => some p
  | _ => none
theorem put_size (a : Act) (dst : Option Tmp) (v : Value) : (a.put dst v).tmps.size = a.tmps.size := by cases dst <;> simp [Act.put]
def R (N : Nat) (A : Fa) (i : Nat) (b : Act) (fp : Nat → Fp) (w : World) : Prop :=
  match A.κ i with
  | none => b.tmps.getD i undef = A.a.tmps.getD i undef
  | some K => nb (A.a.tmps.getD i undef) ∧ nb (b.tmps.getD i undef) ∧ K.p (b.tmps.getD i undef) (fp i) w ∧ (∀ g, fp i g → g < w.heap.size) ∧ (K.bx = true → ∀ g, fp i g → N ≤ g)
def AR (N : Nat) (A : Fa) (b : Act) (fp : Nat → Fp) (w : World) : Prop :=
  b.defers = A.a.defers ∧ b.tmps.size = A.a.tmps.size ∧ (∀ i, R N A i b fp w) ∧ ∀ i j K K', i ≠ j → A.κ i = some K → A.κ j = some K' → K.bx = true → ∀ g, fp i g → ¬ fp j g
theorem R.none_ {N : Nat} {A : Fa} {i : Nat} {b : Act} {fp : Nat → Fp} {w : World} (h : R N A i b fp w) (hk : A.κ i = none) : b.tmps.getD i undef = A.a.tmps.getD i undef := by
  unfold R at h; rw [hk] at h; exact h
theorem R.some_ {N : Nat} {A : Fa} {i : Nat} {b : Act} {fp : Nat → Fp} {w : World} {K : Kd} (h : R N A i b fp w) (hk : A.κ i = some K) : nb (A.a.tmps.getD i undef) ∧ nb (b.tmps.getD i undef) ∧ K.p (b.tmps.getD i undef) (fp i) w ∧ (∀ g, fp i g → g < w.heap.size) ∧ (K.bx = true → ∀ g, fp i g → N ≤ g) := by
  unfold R at h; rw [hk] at h; exact h
theorem R_of_none {N : Nat} {A : Fa} {i : Nat} {b : Act} {fp : Nat → Fp} {w : World} (hk : A.κ i = none) (h : b.tmps.getD i undef = A.a.tmps.getD i undef) : R N A i b fp w := by
  unfold R; rw [hk]; exact h
theorem R_of_some {N : Nat} {A : Fa} {i : Nat} {b : Act} {fp : Nat → Fp} {w : World} {K : Kd} (hk : A.κ i = some K) (h : nb (A.a.tmps.getD i undef) ∧ nb (b.tmps.getD i undef) ∧ K.p (b.tmps.getD i undef) (fp i) w ∧ (∀ g, fp i g → g < w.heap.size) ∧ (K.bx = true → ∀ g, fp i g → N ≤ g)) : R N A i b fp w := by
  unfold R; rw [hk]; exact h
/-- the operation has left this -/
def good (ops : Array Oper) (N : Nat) (o : Oper) (A : Fa) (b : Act) (fp : Nat → Fp) (w : World) (e : Ef) (u : Value) (w' : World) : Prop :=
  (match e.x with
   | .v z => u = z
   | .k K => nb u ∧ ∃ S : Fp, K.p u S w' ∧ (K.bx = true → ∀ g, S g → w.heap.size ≤ g) ∧ ∀ g, S g → g < w'.heap.size ∧ (w.heap.size ≤ g ∨ g < N ∨ ∃ j K', j ∈ o.looksAt ops ∧ A.κ j = some K' ∧ K'.bx = false ∧ fp j g)) ∧
  (match e.st with
   | none => w.Since w.heap.size w'
   | some q => w.Since N w' ∧ w'.heap.size = w.heap.size ∧ (∃ K0, A.κ q.1 = some K0 ∧ K0.bx = true) ∧ q.2.bx = true ∧ q.2.p (b.tmps.getD q.1 undef) (fp q.1) w' ∧ ∀ k, ¬ fp q.1 k → w'.heap[k]? = w.heap[k]?)
theorem since_of {N : Nat} {w0 w w' : World} (h : w0.Since N w) (hs : w.Since w.heap.size w') (hN : N ≤ w.heap.size) : w0.Since N w' := h.trans (since_mono hs hN)
section
variable {P : Program} {ops : Array Oper} {md : Region.Mode} {w0 : World}
/-- one step keeps the relation -/
theorem AR.step {N : Nat} {o : Oper} {A : Fa} {b : Act} {fp : Nat → Fp} {w w' : World} {e : Ef} {u : Value} (h : AR N A b fp w) (hd : ∀ q, e.st = some q → o.dst = none) (hN : N ≤ w.heap.size) (hg : good ops N o A b fp w e u w') :
    ∃ fp', AR N (A.put o.dst e) (b.put o.dst u) fp' w' := by
  obtain ⟨h1, h2, h3, h4⟩ := h
  obtain ⟨x, st⟩ := e
  obtain ⟨hx, hst⟩ := hg
  simp only at hx hst hd
  cases st with
  | some q =>
    obtain ⟨p, K⟩ := q
    have hdn := hd _ rfl
    simp only at hst
    obtain ⟨s1, s2, ⟨K0, hK0, hb0⟩, hb, hp, hoth⟩ := hst
    rw [hdn]
    refine ⟨fp, h1, h2, fun i => ?_, fun i j Ki Kj hij hi hj hbi => ?_⟩
    · by_cases e : i = p
      · subst e
        have := (h3 i).some_ hK0
        exact R_of_some (K := K) (by simp [Fa.put, k2, upd]) ⟨this.1, this.2.1, hp, fun g hg => by rw [s2]; exact this.2.2.2.1 g hg, fun _ => this.2.2.2.2 hb0⟩
      · have hk : (A.put none ⟨x, some (p, K)⟩).κ i = A.κ i := by simp [Fa.put, k2, k1, upd, e]
        cases hki : A.κ i with
        | none => exact R_of_none (hk.trans hki) ((h3 i).none_ hki)
        | some Ki =>
          have := (h3 i).some_ hki
          exact R_of_some (hk.trans hki) ⟨this.1, this.2.1, Ki.stable _ _ w w' (fun g hg => hoth g fun hpg => h4 p i K0 Ki (Ne.symm e) hK0 hki hb0 g hpg hg) this.2.2.1, fun g hg => by rw [s2]; exact this.2.2.2.1 g hg, this.2.2.2.2⟩
    · have hk : ∀ i K', (A.put none ⟨x, some (p, K)⟩).κ i = some K' → ∃ K'', A.κ i = some K'' ∧ (K'.bx = true → K''.bx = true) := by
        intro i K' hi
        by_cases e : i = p
        · subst e; exact ⟨K0, hK0, fun _ => hb0⟩
        · exact ⟨K', by simpa [Fa.put, k2, k1, upd, e] using hi, id⟩
      obtain ⟨K1, hi1, hb1⟩ := hk i Ki hi
      obtain ⟨K2, hj2, _⟩ := hk j Kj hj
      exact h4 i j K1 K2 hij hi1 hj2 (hb1 hbi)
  | none =>
    simp only at hst
    have keep : ∀ i K, A.κ i = some K → K.p (b.tmps.getD i undef) (fp i) w' ∧ ∀ g, fp i g → g < w'.heap.size := fun i K hi => by
      have := (h3 i).some_ hi
      exact ⟨K.stable _ _ w w' (fun g hg => hst.block g (this.2.2.2.1 g hg)) this.2.2.1, fun g hg => Nat.lt_of_lt_of_le (this.2.2.2.1 g hg) hst.size⟩
    have stay : ∀ i, R N A i b fp w → R N A i b fp w' := fun i hi => by
      cases hki : A.κ i with
      | none => exact R_of_none hki (hi.none_ hki)
      | some K =>
        have := hi.some_ hki
        have k := keep i K hki
        exact R_of_some hki ⟨this.1, this.2.1, k.1, k.2, this.2.2.2.2⟩
    cases hdst : o.dst with
    | none => exact ⟨fp, h1, h2, fun i => stay i (h3 i), h4⟩
    | some d =>
      by_cases hsz : d < A.a.tmps.size
      · have hbs : d < b.tmps.size := by rw [h2]; exact hsz
        have gA : ∀ i, (A.a.put (some d) x.val).tmps.getD i undef = if d = i then x.val else A.a.tmps.getD i undef := fun i => by
          simp only [Act.put]; rw [Lo.getD_put]
          by_cases e : d = i
          · rw [if_pos ⟨e, hsz⟩, if_pos e]
          · rw [if_neg (fun h => e h.1), if_neg e]
        have gB : ∀ i, (b.put (some d) u).tmps.getD i undef = if d = i then u else b.tmps.getD i undef := fun i => by
          simp only [Act.put]; rw [Lo.getD_put]
          by_cases e : d = i
          · rw [if_pos ⟨e, hbs⟩, if_pos e]
          · rw [if_neg (fun h => e h.1), if_neg e]
        have hκ : ∀ i, (A.put (some d) ⟨x, none⟩).κ i = if i = d then x.kd else A.κ i := fun i => by simp [Fa.put, k2, k1, hsz, upd]
        have oth : ∀ (fp' : Nat → Fp), (∀ i, i ≠ d → fp' i = fp i) → ∀ i, i ≠ d → R N (A.put (some d) ⟨x, none⟩) i (b.put (some d) u) fp' w' := fun fp' hfp i hi => by
          have hk := hκ i
          rw [if_neg hi] at hk
          have s := stay i (h3 i)
          have ea : (A.put (some d) ⟨x, none⟩).a.tmps.getD i undef = A.a.tmps.getD i undef := by show (A.a.put (some d) x.val).tmps.getD i undef = _; rw [gA, if_neg (Ne.symm hi)]
          have eb : (b.put (some d) u).tmps.getD i undef = b.tmps.getD i undef := by rw [gB, if_neg (Ne.symm hi)]
          cases hki : A.κ i with
          | none => exact R_of_none (hk.trans hki) (by rw [ea, eb]; exact s.none_ hki)
          | some K => exact R_of_some (hk.trans hki) (by rw [ea, eb, hfp i hi]; exact s.some_ hki)
        cases x with
        | v z =>
          simp only at hx
          subst hx
          refine ⟨fp, by simpa [Act.put, Fa.put] using h1, by simpa [Act.put, Fa.put] using h2, fun i => ?_, fun i j Ki Kj hij hi hj hbi => ?_⟩
          · by_cases e : i = d
            · subst e
              refine R_of_none (by rw [hκ, if_pos rfl]; rfl) ?_
              show _ = (A.a.put (some i) _).tmps.getD i undef
              rw [gA, gB, if_pos rfl, if_pos rfl]
              rfl
            · exact oth fp (fun _ _ => rfl) i e
          · rw [hκ] at hi hj
            by_cases e : i = d
            · rw [if_pos e] at hi; cases hi
            · by_cases e2 : j = d
              · rw [if_pos e2] at hj; cases hj
              · rw [if_neg e] at hi; rw [if_neg e2] at hj
                exact h4 i j Ki Kj hij hi hj hbi
        | k K =>
          simp only at hx
          obtain ⟨hnb, S, hp, hfr, hS⟩ := hx
          refine ⟨fun i => if i = d then S else fp i, by simpa [Act.put, Fa.put] using h1, by simpa [Act.put, Fa.put] using h2, fun i => ?_, fun i j Ki Kj hij hi hj hbi => ?_⟩
          · by_cases e : i = d
            · subst e
              refine R_of_some (K := K) (by rw [hκ, if_pos rfl]; rfl) ?_
              rw [gB, if_pos rfl]
              refine ⟨?_, hnb, by simpa using hp, fun g hg => (hS g (by simpa using hg)).1, fun hb g hg => Nat.le_trans hN (hfr hb g (by simpa using hg))⟩
              show nb ((A.a.put (some i) _).tmps.getD i undef)
              rw [gA, if_pos rfl]
              exact trivial
            · exact oth _ (fun i hi => if_neg hi) i e
          · rw [hκ] at hi hj
            intro g hgi hgj
            by_cases e : i = d
            · rw [if_pos e] at hi
              injection hi with hi
              subst hi
              have hne : j ≠ d := fun h => hij (e.trans h.symm)
              rw [if_neg hne] at hj
              simp only [e, if_true, if_neg hne] at hgi hgj
              have := hfr hbi g hgi
              have := ((h3 j).some_ hj).2.2.2.1 g hgj
              omega
            · rw [if_neg e] at hi
              simp only [if_neg e] at hgi
              have bi := (h3 i).some_ hi
              have hlt := bi.2.2.2.1 g hgi
              have hge := bi.2.2.2.2 hbi g hgi
              by_cases e2 : j = d
              · simp only [if_pos e2] at hgj
                rcases (hS g hgj).2 with h5 | h5 | ⟨j', K', _, hj', hb', hg'⟩
                · omega
                · omega
                · refine h4 i j' Ki K' (fun e3 => ?_) hi hj' hbi g hgi hg'
                  subst e3
                  rw [hi] at hj'
                  injection hj' with hj'
                  subst hj'
                  rw [hbi] at hb'
                  cases hb'
              · rw [if_neg e2] at hj
                simp only [if_neg e2] at hgj
                exact h4 i j Ki Kj hij hi hj hbi g hgi hgj
      · have ea : ∀ z, A.a.put (some d) z = A.a := fun z => by
          obtain ⟨⟨ts, ds⟩, κ⟩ := A
          simp only [Act.put]
          congr 1
          exact Array.setIfInBounds_eq_of_size_le (by simpa using hsz)
        have eb : b.put (some d) u = b := by
          obtain ⟨ts, ds⟩ := b
          simp only [Act.put]
          congr 1
          exact Array.setIfInBounds_eq_of_size_le (by simp only at h2; rw [h2]; exact Nat.le_of_not_lt hsz)
        have eA : A.put (some d) ⟨x, none⟩ = A := by
          obtain ⟨a, κ⟩ := A
          simp only [Fa.put, k2, k1]
          rw [if_neg hsz, ea]
        rw [eA, eb]
        exact ⟨fp, h1, h2, fun i => stay i (h3 i), h4⟩
theorem good.world {N : Nat} {o : Oper} {A : Fa} {b : Act} {fp : Nat → Fp} {w w' : World} {e : Ef} {u : Value} (hw : w0.Since N w) (hN : N ≤ w.heap.size) (hg : good ops N o A b fp w e u w') : w0.Since N w' ∧ N ≤ w'.heap.size := by
  obtain ⟨x, st⟩ := e
  have h := hg.2
  cases st with
  | none => exact ⟨since_of hw h hN, Nat.le_trans hN h.size⟩
  | some q => exact ⟨hw.trans h.1, by rw [h.2.1]; exact hN⟩
def upon (P : Program) (G : Value → World → Prop) : Result Next → Prop
  | .ok (.value u) w' => G u w'
  | .ok .skip w' => G undef w'
  | .ok (.enter f args) w' => Calls P f args w' fun e w2 => ∃ u, e = .returned u ∧ G u w2
  | _ => False
/-- From every frame alike and in every world behind w0 the operation leaves this. -/
def loose (P : Program) (ops : Array Oper) (w0 : World) (o : Oper) (A : Fa) (e : Ef) : Prop :=
  (∀ q, e.st = some q → o.dst = none ∧ stOf o = some q.1) ∧ ∀ b fp w, w0.Since w0.heap.size w → w0.heap.size ≤ w.heap.size → b.tmps.size = A.a.tmps.size → (∀ i ∈ o.looksAt ops, R w0.heap.size A i b fp w) →
    upon P (good ops w0.heap.size o A b fp w e) ((execOp b.eval o).run P w)
def wpK (P : Program) (ops : Array Oper) (w0 : World) (Q : Fa → Prop) : List Oper → Fa → Prop
  | [], A => Q A
  | o :: rest, A => if Region.wanted o (yielded ops A.a.tmps) then ∃ e, loose P ops w0 o A e ∧ wpK P ops w0 Q rest (A.put o.dst e) else wpK P ops w0 Q rest (A.put o.dst (ev undef))
def at1 (P : Program) (ops : Array Oper) (w0 : World) (i : Nat) (K : Fa → Prop) (A : Fa) : Prop :=
  match ops[i]? with
  | none => K A
  | some o => if Region.wanted o (yielded ops A.a.tmps) then ∃ e, loose P ops w0 o A e ∧ K (A.put o.dst e) else K (A.put o.dst (ev undef))
theorem at1_mono {i : Nat} {A : Fa} {K K2 : Fa → Prop} (h : ∀ A, K A → K2 A) (hh : at1 P ops w0 i K A) : at1 P ops w0 i K2 A := by
  unfold at1 at *
  cases ho : ops[i]? with
  | none => rw [ho] at hh; exact h _ hh
  | some o =>
    rw [ho] at hh
    simp only at hh ⊢
    by_cases hw : Region.wanted o (yielded ops A.a.tmps) = true
    · rw [if_pos hw] at hh ⊢
      obtain ⟨v, h1, h2⟩ := hh
      exact ⟨v, h1, h _ h2⟩
    · rw [if_neg hw] at hh ⊢
      exact h _ hh
theorem nb_yield {ops : Array Oper} {a b : Act} (hs : b.tmps.size = a.tmps.size) (h : ∀ i, b.tmps.getD i undef = a.tmps.getD i undef ∨ nb (a.tmps.getD i undef) ∧ nb (b.tmps.getD i undef)) : yielded ops b.tmps = yielded ops a.tmps := by
  funext j
  unfold yielded
  cases ht : (ops[j]?).bind (·.dst) with
  | none => rfl
  | some t =>
    simp only [Option.bind_some]
    by_cases hs2 : t < a.tmps.size
    · rw [Lo.getD_of_lt b.tmps t (by rw [hs]; exact hs2), Lo.getD_of_lt a.tmps t hs2]
      rcases h t with e | ⟨e1, e2⟩
      · rw [e]
      · generalize a.tmps.getD t undef = x at *
        generalize b.tmps.getD t undef = y at *
        cases x <;> cases y <;> simp_all [nb]
    · have e1 : a.tmps[t]? = none := Array.getElem?_eq_none (Nat.le_of_not_lt hs2)
      have e2 : b.tmps[t]? = none := Array.getElem?_eq_none (by rw [hs]; exact Nat.le_of_not_lt hs2)
      rw [e1, e2]
theorem AR.yield {N : Nat} {A : Fa} {b : Act} {fp : Nat → Fp} {w : World} (h : AR N A b fp w) : yielded ops b.tmps = yielded ops A.a.tmps :=
  nb_yield h.2.1 fun i => by
    cases hk : A.κ i with
    | none => exact .inl ((h.2.2.1 i).none_ hk)
    | some K => have := (h.2.2.1 i).some_ hk; exact .inr ⟨this.1, this.2.1⟩
def anyL (P : Program) (md : Region.Mode) (ops : Array Oper) (w0 : World) (Q : Fa → Prop) : Nat → Array Bool → Fa → Prop
  | 0, listed, A => Region.ready md ops listed = [] ∧ Q A
  | n + 1, listed, A => (Region.ready md ops listed = [] → Q A) ∧ ∀ i ∈ Region.ready md ops listed, at1 P ops w0 i (anyL P md ops w0 Q n (listed.setIfInBounds i true)) A
theorem wp_of_at1 {i : Nat} {A : Fa} {b : Act} {fp : Nat → Fp} {K : Fa → Prop} {K2 : Act → World → Prop} {Q2 : Exit → Act → World → Prop} {w : World} (hw : w0.Since w0.heap.size w) (hN : w0.heap.size ≤ w.heap.size) (hab : AR w0.heap.size A b fp w)
    (h : ∀ A b fp w, w0.Since w0.heap.size w → w0.heap.size ≤ w.heap.size → AR w0.heap.size A b fp w → K A → K2 b w) (hh : at1 P ops w0 i K A) : wpOp P ops Q2 i K2 b w := by
  unfold at1 at hh
  unfold wpOp
  cases ho : ops[i]? with
  | none => rw [ho] at hh; exact h _ _ _ _ hw hN hab hh
  | some o =>
    rw [ho] at hh
    simp only at hh ⊢
    rw [hab.yield]
    by_cases hwt : Region.wanted o (yielded ops A.a.tmps) = true
    · rw [if_pos hwt] at hh ⊢
      obtain ⟨e, ⟨hd, h1⟩, h2⟩ := hh
      refine .inl ?_
      have h3 := h1 b fp w hw hN hab.2.1 (fun i _ => hab.2.2.1 i)
      have fin : ∀ u w', good ops w0.heap.size o A b fp w e u w' → K2 (b.put o.dst u) w' := fun u w' hg => by
        obtain ⟨fp', hab'⟩ := hab.step (fun q hq => (hd q hq).1) hN hg
        have hw' := hg.world hw hN
        exact h _ _ fp' w' hw'.1 hw'.2 hab' h2
      unfold Oper.wp
      generalize (execOp b.eval o).run P w = r at h3
      cases r with
      | ok n w2 =>
        cases n <;> simp only [upon] at h3 <;> simp only [Oper.upon]
        case value u => exact fin _ _ h3
        case skip => exact fin _ _ h3
        case enter f args =>
          refine h3.mono fun e w3 ⟨u, he, hu⟩ => ?_
          subst he
          exact fin _ _ hu
      | halt x w2 => simp only [upon] at h3
    · rw [if_neg hwt] at hh ⊢
      obtain ⟨fp', hab'⟩ := hab.step (ops := ops) (o := o) (e := ev undef) (u := undef) (fun q hq => by cases hq) hN ⟨rfl, World.Since.refl _ _⟩
      exact h _ _ fp' w hw hN hab' hh
theorem wpAny_of_anyL {Q : Fa → Prop} {Q2 : Exit → Act → World → Prop} (hQ : ∀ A b fp w, w0.Since w0.heap.size w → w0.heap.size ≤ w.heap.size → AR w0.heap.size A b fp w → Q A → Q2 .normal b w) : ∀ (n : Nat) (listed : Array Bool) (A : Fa) (b : Act) (fp : Nat → Fp) (w : World), w0.Since w0.heap.size w → w0.heap.size ≤ w.heap.size → AR w0.heap.size A b fp w →
    anyL P md ops w0 Q n listed A → wpAny P md ops Q2 n listed b w
  | 0, _, _, _, _, _, hw, hN, hab, h => ⟨h.1, hQ _ _ _ _ hw hN hab h.2⟩
  | n + 1, _, _, _, _, _, hw, hN, hab, h => ⟨fun h0 => hQ _ _ _ _ hw hN hab (h.1 h0), fun i hi => wp_of_at1 hw hN hab (fun A2 b2 fp2 w2 hw2 hN2 hab2 => wpAny_of_anyL hQ n _ A2 b2 fp2 w2 hw2 hN2 hab2) (h.2 i hi)⟩
/-! ### what an operation does not look at -/
def notIn (dst : Option Tmp) (e : Ef) (L : List Nat) : Prop := (∀ d, dst = some d → d ∉ L) ∧ ∀ q, e.st = some q → q.1 ∉ L
theorem put_κ {A : Fa} {dst : Option Tmp} {e : Ef} {i : Nat} (h1 : ∀ d, dst = some d → i ≠ d) (h2 : ∀ q, e.st = some q → i ≠ q.1) : (A.put dst e).κ i = A.κ i := by
  obtain ⟨x, st⟩ := e
  have hk : k1 A dst x i = A.κ i := by
    cases dst with
    | none => rfl
    | some d =>
      simp only [k1]
      by_cases hs : d < A.a.tmps.size
      · rw [if_pos hs]; simp [upd, h1 d rfl]
      · rw [if_neg hs]
  cases st with
  | none => exact hk
  | some q => simp only [Fa.put, k2, upd]; rw [if_neg (h2 q rfl)]; exact hk
theorem put_val {A : Fa} {dst : Option Tmp} {e : Ef} {i : Nat} (h1 : ∀ d, dst = some d → i ≠ d) : (A.put dst e).a.tmps.getD i undef = A.a.tmps.getD i undef := by
  cases dst with
  | none => rfl
  | some d =>
    show (A.a.tmps.setIfInBounds d e.x.val).getD i undef = _
    rw [Lo.getD_put, if_neg (fun h => h1 d rfl h.1.symm)]
theorem R_put {N : Nat} {A : Fa} {dst : Option Tmp} {e : Ef} {L : List Nat} (h : notIn dst e L) {i : Nat} (hi : i ∈ L) {b : Act} {fp : Nat → Fp} {w : World} : R N (A.put dst e) i b fp w ↔ R N A i b fp w := by
  unfold R
  have h1 : ∀ d, dst = some d → i ≠ d := fun d hd e => h.1 d hd (e ▸ hi)
  rw [put_κ h1 (fun q hq e => h.2 q hq (e ▸ hi)), put_val h1]
theorem good_put {N : Nat} {o : Oper} {A : Fa} {dst : Option Tmp} {e e2 : Ef} (h : notIn dst e (o.looksAt ops)) (hst : ∀ q, e2.st = some q → q.1 ∈ o.looksAt ops) {b : Act} {fp : Nat → Fp} {w : World} {u : Value} {w' : World} :
    good ops N o (A.put dst e) b fp w e2 u w' ↔ good ops N o A b fp w e2 u w' := by
  have hκ : ∀ j, j ∈ o.looksAt ops → (A.put dst e).κ j = A.κ j := fun j hj => put_κ (fun d hd e => h.1 d hd (e ▸ hj)) (fun q hq e => h.2 q hq (e ▸ hj))
  obtain ⟨x, st⟩ := e2
  unfold good
  refine and_congr ?_ ?_
  · cases x with
    | v z => exact Iff.rfl
    | k K =>
      refine and_congr Iff.rfl (exists_congr fun S => and_congr Iff.rfl (and_congr Iff.rfl (forall_congr' fun g => imp_congr Iff.rfl (and_congr Iff.rfl (or_congr Iff.rfl (or_congr Iff.rfl ?_))))))
      refine exists_congr fun j => exists_congr fun K' => ⟨fun ⟨a, b, c⟩ => ⟨a, (hκ j a).symm.trans b, c⟩, fun ⟨a, b, c⟩ => ⟨a, (hκ j a).trans b, c⟩⟩
  · cases st with
    | none => exact Iff.rfl
    | some q =>
      have := hκ q.1 (hst q rfl)
      simp only
      rw [this]
theorem stOf_looks {o : Oper} {p : Nat} (h : stOf o = some p) : p ∈ o.looksAt ops := by
  unfold stOf at h
  split at h
  · rename_i ho
    injection h with h
    subst h
    unfold Oper.looksAt
    rw [ho]
    simp [Op.operands]
  · cases h
theorem loose_put {o : Oper} {A : Fa} {dst : Option Tmp} {e e2 : Ef} (h : notIn dst e (o.looksAt ops)) : loose P ops w0 o (A.put dst e) e2 ↔ loose P ops w0 o A e2 := by
  have hsz : (A.put dst e).a.tmps.size = A.a.tmps.size := put_size _ _ _
  unfold loose
  refine and_congr_right fun hq => ?_
  have hst : ∀ q, e2.st = some q → q.1 ∈ o.looksAt ops := fun q hq2 => stOf_looks (hq q hq2).2
  have up : ∀ b fp w r, upon P (good ops w0.heap.size o (A.put dst e) b fp w e2) r ↔ upon P (good ops w0.heap.size o A b fp w e2) r := fun b fp w r => by
    have : good ops w0.heap.size o (A.put dst e) b fp w e2 = good ops w0.heap.size o A b fp w e2 := funext fun u => funext fun w' => propext (good_put h hst)
    rw [this]
  constructor
  · intro hl b fp w h1 h2 h3 h4
    exact (up b fp w _).1 (hl b fp w h1 h2 (h3.trans hsz.symm) fun i hi => (R_put h hi).2 (h4 i hi))
  · intro hl b fp w h1 h2 h3 h4
    exact (up b fp w _).2 (hl b fp w h1 h2 (h3.trans hsz) fun i hi => (R_put h hi).1 (h4 i hi))
def Yl (P : Program) (ops : Array Oper) (w0 : World) (o : Oper) (e : Ef) (A : Fa) : Prop :=
  (Region.wanted o (yielded ops A.a.tmps) = true ∧ loose P ops w0 o A e) ∨ (Region.wanted o (yielded ops A.a.tmps) = false ∧ e = ev undef)
theorem Yl.st {o : Oper} {e : Ef} {A : Fa} (h : Yl P ops w0 o e A) : ∀ q, e.st = some q → o.dst = none ∧ stOf o = some q.1 := by
  rcases h with ⟨_, h⟩ | ⟨_, rfl⟩
  · exact h.1
  · intro q hq; cases hq
theorem at1_of_Yl {i : Nat} {o : Oper} {e : Ef} {A : Fa} (hi : ops[i]? = some o) (hy : Yl P ops w0 o e A) {K : Fa → Prop} (h : K (A.put o.dst e)) : at1 P ops w0 i K A := by
  unfold at1
  rw [hi]
  simp only
  rcases hy with ⟨hw, hv⟩ | ⟨hw, rfl⟩
  · rw [if_pos hw]; exact ⟨e, hv, h⟩
  · rw [if_neg (by rw [hw]; decide)]; exact h
theorem Yl_of_at1 {i : Nat} {o : Oper} {A : Fa} {K : Fa → Prop} (hi : ops[i]? = some o) (h : at1 P ops w0 i K A) : ∃ e, Yl P ops w0 o e A ∧ K (A.put o.dst e) := by
  unfold at1 at h
  rw [hi] at h
  simp only at h
  by_cases hw : Region.wanted o (yielded ops A.a.tmps) = true
  · rw [if_pos hw] at h
    obtain ⟨v, h1, h2⟩ := h
    exact ⟨v, .inl ⟨hw, h1⟩, h2⟩
  · rw [if_neg hw] at h
    exact ⟨ev undef, .inr ⟨by simpa using hw, rfl⟩, h⟩
theorem put_comm (A : Fa) {x y : Option Tmp} (e f : Ef) (h : ∀ d, x = some d → y ≠ some d) (h1 : ∀ q d, e.st = some q → y = some d → q.1 ≠ d) (h2 : ∀ q d, f.st = some q → x = some d → q.1 ≠ d) (h3 : ∀ q r, e.st = some q → f.st = some r → q.1 ≠ r.1) :
    (A.put x e).put y f = (A.put y f).put x e := by
  have ea := Act.put_comm A.a (x := x) (y := y) e.x.val f.x.val h
  have s1 : ∀ z v, (A.a.put z v).tmps.size = A.a.tmps.size := fun z v => put_size _ _ _
  show Fa.mk _ _ = Fa.mk _ _
  congr 1
  funext i
  simp only [Fa.put]
  have hk : ∀ (κ : Nat → Option Kd) (d : Option Tmp) (v : Va) (i : Nat), k1 ⟨A.a, κ⟩ d v i = if (d = some i ∧ i < A.a.tmps.size) then v.kd else κ i := fun κ d v i => by
    cases d with
    | none => simp [k1]
    | some d =>
      simp only [k1]
      by_cases hs : d < A.a.tmps.size
      · rw [if_pos hs]
        simp only [upd]
        by_cases e : i = d
        · subst e; simp [hs]
        · rw [if_neg e, if_neg (fun h => e (by injection h.1 with h; exact h.symm))]
      · rw [if_neg hs]
        split
        · rename_i h
          obtain ⟨h, h'⟩ := h
          injection h with h
          subst h
          exact absurd h' hs
        · rfl
  have hk' : ∀ (z : Option Tmp) (u : Value) (κ : Nat → Option Kd) (d : Option Tmp) (v : Va) (i : Nat), k1 ⟨A.a.put z u, κ⟩ d v i = if (d = some i ∧ i < A.a.tmps.size) then v.kd else κ i := fun z u κ d v i => by
    rw [← hk κ d v i]
    cases d with
    | none => rfl
    | some d => simp only [k1, s1]
  have hA : ∀ (d : Option Tmp) (v : Va) (i : Nat), k1 A d v i = if (d = some i ∧ i < A.a.tmps.size) then v.kd else A.κ i := fun d v i => hk A.κ d v i
  have hk2 : ∀ (κ : Nat → Option Kd) (q : Option (Nat × Kd)) (i : Nat), k2 κ q i = match q with | some q => (if i = q.1 then some q.2 else κ i) | none => κ i := fun κ q i => by cases q <;> rfl
  obtain ⟨ex, es⟩ := e
  obtain ⟨fx, fs⟩ := f
  simp only at h1 h2 h3 ⊢
  rw [hk2, hk2]
  simp only [hk', hk2, hA]
  cases es with
  | none =>
    cases fs with
    | none =>
      simp only
      by_cases c1 : x = some i ∧ i < A.a.tmps.size
      · by_cases c2 : y = some i ∧ i < A.a.tmps.size
        · exact absurd c2.1 (h i c1.1)
        · have hy' : ¬ y = some i := fun e => c2 ⟨e, c1.2⟩
          simp [c1, hy']
      · simp [c1]
    | some r =>
      simp only
      by_cases c : i = r.1
      · subst c
        by_cases c1 : x = some r.1 ∧ r.1 < A.a.tmps.size
        · exact absurd rfl (h2 r r.1 rfl c1.1)
        · simp [c1]
      · simp only [if_neg c]
        by_cases c1 : x = some i ∧ i < A.a.tmps.size
        · by_cases c2 : y = some i ∧ i < A.a.tmps.size
          · exact absurd c2.1 (h i c1.1)
          · have hy' : ¬ y = some i := fun e => c2 ⟨e, c1.2⟩
            simp [c1, hy']
        · simp [c1]
  | some q =>
    cases fs with
    | none =>
      simp only
      by_cases c : i = q.1
      · subst c
        by_cases c1 : y = some q.1 ∧ q.1 < A.a.tmps.size
        · exact absurd rfl (h1 q q.1 rfl c1.1)
        · simp [c1]
      · simp only [if_neg c]
        by_cases c1 : x = some i ∧ i < A.a.tmps.size
        · by_cases c2 : y = some i ∧ i < A.a.tmps.size
          · exact absurd c2.1 (h i c1.1)
          · have hy' : ¬ y = some i := fun e => c2 ⟨e, c1.2⟩
            simp [c1, hy']
        · simp [c1]
    | some r =>
      have hqr := h3 q r rfl rfl
      simp only
      by_cases c : i = r.1
      · subst c
        have c3 : ¬ r.1 = q.1 := fun e => hqr e.symm
        by_cases c1 : x = some r.1 ∧ r.1 < A.a.tmps.size
        · exact absurd rfl (h2 r r.1 rfl c1.1)
        · simp [c1, c3]
      · by_cases c' : i = q.1
        · subst c'
          by_cases c1 : y = some q.1 ∧ q.1 < A.a.tmps.size
          · exact absurd rfl (h1 q q.1 rfl c1.1)
          · simp [c1, c]
        · simp only [if_neg c, if_neg c']
          by_cases c1 : x = some i ∧ i < A.a.tmps.size
          · by_cases c2 : y = some i ∧ i < A.a.tmps.size
            · exact absurd c2.1 (h i c1.1)
            · have hy' : ¬ y = some i := fun e => c2 ⟨e, c1.2⟩
              simp [c1, hy']
          · simp [c1]
/-- no operation but the store itself looks at the box into which it stores -/
def stB (ops : Array Oper) : Bool := (List.range ops.size).all fun i => (List.range ops.size).all fun j => i == j || match ops[i]?, ops[j]? with
  | some oi, some oj => (match stOf oi with | some p => !(oj.looksAt ops).contains p | none => true)
  | _, _ => true
theorem stB_spec (h : stB ops = true) {i j : Nat} {oi oj : Oper} (hi : ops[i]? = some oi) (hj : ops[j]? = some oj) (hne : i ≠ j) {p : Nat} (hp : stOf oi = some p) : p ∉ oj.looksAt ops := by
  unfold stB at h
  have h1 := List.all_eq_true.1 h i (List.mem_range.2 (Array.getElem?_eq_some_iff.1 hi).1)
  have h2 := List.all_eq_true.1 h1 j (List.mem_range.2 (Array.getElem?_eq_some_iff.1 hj).1)
  simp only [hi, hj, hp, Bool.or_eq_true, beq_iff_eq, hne, false_or, Bool.not_eq_true', List.contains_eq_mem, decide_eq_false_iff_not] at h2
  exact h2
theorem at1_swap {i j : Nat} {oi oj : Oper} {e : Ef} (hi : ops[i]? = some oi) (hj : ops[j]? = some oj) (hne : i ≠ j) (hS : stB ops = true) (hap : oi.apart ops oj = true) {K : Fa → Prop} {A : Fa}
    (hy : Yl P ops w0 oi e A) (h : at1 P ops w0 j K (A.put oi.dst e)) : at1 P ops w0 j (fun B => Yl P ops w0 oi e B ∧ K (B.put oi.dst e)) A := by
  obtain ⟨h1, h2, h3⟩ := Oper.apart_spec hap
  have n1 : notIn oi.dst e (oj.looksAt ops) := ⟨h1, fun q hq => stB_spec hS hi hj hne (hy.st q hq).2⟩
  have keep : ∀ f : Ef, (∀ q, f.st = some q → oj.dst = none ∧ stOf oj = some q.1) → Yl P ops w0 oi e (A.put oj.dst f) := fun f hf => by
    have n2 : notIn oj.dst f (oi.looksAt ops) := ⟨h3, fun q hq => stB_spec hS hj hi (Ne.symm hne) (hf q hq).2⟩
    unfold Yl at hy ⊢
    rw [show (A.put oj.dst f).a = A.a.put oj.dst f.x.val from rfl, wanted_put oi A.a oj.dst f.x.val h3, loose_put n2]
    exact hy
  have com : ∀ f : Ef, (∀ q, f.st = some q → oj.dst = none ∧ stOf oj = some q.1) → (A.put oi.dst e).put oj.dst f = (A.put oj.dst f).put oi.dst e := fun f hf => by
    refine put_comm A e f h2 (fun q d hq hd => ?_) (fun q d hq hd => ?_) (fun q r hq hr => ?_)
    · intro he
      exact h3 d hd (he ▸ stOf_looks (hy.st q hq).2)
    · intro he
      exact h1 d hd (he ▸ stOf_looks (hf q hq).2)
    · intro he
      exact stB_spec hS hi hj hne (hy.st q hq).2 (he ▸ stOf_looks (hf r hr).2)
  unfold at1 at *
  rw [hj] at h ⊢
  simp only at h ⊢
  rw [show (A.put oi.dst e).a = A.a.put oi.dst e.x.val from rfl, wanted_put oj A.a oi.dst e.x.val h1] at h
  by_cases hw : Region.wanted oj (yielded ops A.a.tmps) = true
  · rw [if_pos hw] at h ⊢
    obtain ⟨f, hf, hn⟩ := h
    have hf' := (loose_put n1).1 hf
    exact ⟨f, hf', keep f hf'.1, by rw [← com f hf'.1]; exact hn⟩
  · rw [if_neg hw] at h ⊢
    exact ⟨keep _ (fun q hq => by cases hq), by rw [← com _ (fun q hq => by cases hq)]; exact h⟩
theorem anyL_first {Q : Fa → Prop} {i : Nat} {oi : Oper} {e : Ef} (hi : ops[i]? = some oi) (hS : stB ops = true) :
    ∀ (n : Nat) (listed : Array Bool) (A : Fa),
      (∀ j oj, ops[j]? = some oj → j ≠ i → listed.getD j true = false → (∀ e ∈ oj.after, Region.binds md e = true → e.on ≠ i) → oi.apart ops oj = true) →
      i ∈ Region.ready md ops listed → Yl P ops w0 oi e A →
      anyL P md ops w0 Q n (listed.setIfInBounds i true) (A.put oi.dst e) → anyL P md ops w0 Q (n + 1) listed A := by
  intro n
  induction n with
  | zero =>
    intro listed A _ hr hy H
    refine ⟨fun h => (by rw [h] at hr; cases hr), fun j hj => ?_⟩
    by_cases e : j = i
    · subst e; exact at1_of_Yl hi hy H
    · have h0 := ready_mono hj e
      rw [H.1] at h0
      cases h0
  | succ n ih =>
    intro listed A hfree hr hy H
    refine ⟨fun h => (by rw [h] at hr; cases hr), fun j hj => ?_⟩
    by_cases e : j = i
    · subst e; exact at1_of_Yl hi hy H
    · obtain ⟨hjun, oj, hoj, hall⟩ := mem_ready.1 hj
      have hnot : ∀ x ∈ oj.after, Region.binds md x = true → x.on ≠ i := fun x hx hb heq => by
        have g1 := hall x hx hb
        have g0 := (mem_ready.1 hr).1
        rw [heq] at g1
        rcases Nat.lt_or_ge i listed.size with hl | hl
        · simp [hl] at g0 g1; rw [g0] at g1; cases g1
        · simp [Array.getElem?_eq_none hl] at g1
      have hsw := at1_swap hi hoj (Ne.symm e) hS (hfree j oj hoj e hjun hnot) hy (H.2 j (ready_mono hj e))
      refine at1_mono (fun b hb => ih (listed.setIfInBounds j true) b (fun k ok hk hki hun hno => ?_) (ready_mono hr (Ne.symm e)) hb.1 ?_) hsw
      · refine hfree k ok hk hki ?_ hno
        by_cases hjk : j = k
        · subst hjk; exact hjun
        · rw [getD_set_ne true hjk] at hun; exact hun
      · rw [Array.setIfInBounds_comm _ _ e]
        exact hb.2
theorem anyL_text {Q : Fa → Prop} (hS : stB ops = true) : ∀ (l : List Oper) (k : Nat) (listed : Array Bool) (A : Fa), (∀ j, l[j]? = ops[k + j]?) →
    Region.lexFrom md ops l.length k listed = true → wpK P ops w0 Q l A → anyL P md ops w0 Q l.length listed A
  | [], _, _, _, _, hB, h => ⟨by simpa [Region.lexFrom] using hB, h⟩
  | o :: l, k, listed, A, hl, hB, h => by
    have h0 : ops[k]? = some o := by simpa using (hl 0).symm
    simp only [List.length_cons, Region.lexFrom, Bool.and_eq_true] at hB
    obtain ⟨⟨hr, hf⟩, hB2⟩ := hB
    have hst : at1 P ops w0 k (wpK P ops w0 Q l) A := by unfold at1; rw [h0]; exact h
    obtain ⟨v, hy, hK⟩ := Yl_of_at1 h0 hst
    exact anyL_first h0 hS l.length listed A (Region.free_spec h0 hf) (by simpa using hr) hy
      (anyL_text hS l (k + 1) _ _ (fun j => by have := hl (j + 1); simpa [Nat.add_assoc, Nat.add_comm 1 j] using this) hB2 hK)
end
/-- what stands behind the statement -/
def After (w0 : World) (A : Fa) (Rr : Act → (Nat → Fp) → World → Prop) : Prop := ∀ b fp w, w0.Since w0.heap.size w → w0.heap.size ≤ w.heap.size → AR w0.heap.size A b fp w → Rr b fp w
/-- **One walk in the order of the text serves every order.** -/
theorem wp_k {P : Program} {id : Nat} {Q : Exit → Act → World → Prop} {a : Act} {w : World} {l : List Oper} (hm : P.follows .mixedOrders = true) (hB : Region.lexB .any l.toArray = true) (hS : stB l.toArray = true)
    (h : wpK P l.toArray w (fun A => After w A fun b _ v => Q .normal b v) l ⟨a, fun _ => none⟩) : (Code.region id l.toArray true).wp P Q a w := by
  simp only [Region.lexB, Bool.and_eq_true] at hB
  have s0 : w.Since w.heap.size { w with drawn := w.drawn + 1 } := ⟨rfl, rfl, rfl, Nat.le_refl _, fun _ _ => rfl⟩
  refine wp_region_any hm (wpAny_of_anyL (w0 := w) (Q := fun A => After w A fun b _ v => Q .normal b v)
    (fun A b fp v hw hN hab hq => hq b fp v hw hN hab) _ _ ⟨a, fun _ => none⟩ a (fun _ _ => False) _ s0 (Nat.le_refl _) ⟨rfl, rfl, fun i => R_of_none rfl rfl, fun i j K K' _ hi => by cases hi⟩ ?_)
  have := anyL_text (P := P) (w0 := w) (md := .any) hS l 0 (Array.replicate l.length false) ⟨a, fun _ => none⟩ (by simp) (by simpa using hB.2) h
  simpa using this
end Lk
end Go.Proofs.Ytfgebggfoboalaa

/- The steps of a walk by Lk. -/
set_option linter.unusedVariables false
set_option linter.unusedSimpArgs false
namespace Go.Proofs.Ytfgebggfoboalaa
namespace Lk
open Fl Ieee
def pureOp (o : Oper) : Bool :=
  match o.op with
  | .move _ | .assign _ | .pick .. | .build .. | .load .. | .binOp .. | .unOp .. | .convert .. | .field .. | .index .. | .extract .. | .fieldAddr .. | .indexAddr .. | .makeInterface .. | .makeFunc .. | .slice .. | .sliceToArrayPointer .. => true
  | _ => false
theorem v_no_enter {P : Program} {s : Sem Value} {w w' : World} {f : FuncId} {args : Array Value} (h : (do pure (Next.value (← s)) : Sem Next).run P w = .ok (.enter f args) w') : False := by
  simp only [Sem.run_bind] at h
  cases hs : s.run P w with
  | ok a w2 => rw [hs] at h; simp [Result.andThen] at h
  | halt x w2 => rw [hs] at h; simp [Result.andThen] at h
theorem pure_no_enter {P : Program} {ρ : Operand → Value} {o : Oper} (h : pureOp o = true) {w w' : World} {f : FuncId} {args : Array Value} (e : (execOp ρ o).run P w = .ok (.enter f args) w') : False := by
  unfold pureOp at h
  unfold execOp at e
  cases ho : o.op <;> rw [ho] at h e <;> simp only at h e <;> first | (cases h; done) | exact v_no_enter e | (simp [Sem.run_pure] at e; done) | (simp only [Sem.run_bind, Sem.run_pure] at e; revert e; generalize Sem.run P _ w = r; intro e; cases r <;> simp [Result.andThen] at e; done) | skip
def avoidK (A : Fa) (o : Oper) : Bool := (o.op.operands.toList.all fun x => match x with | .tmp t => (A.κ t).isNone | _ => true) && (match o.op with | .select .. => false | _ => true)
theorem looks_op {ops : Array Oper} {o : Oper} {t : Nat} (h : (.tmp t : Operand) ∈ o.op.operands) : t ∈ o.looksAt ops := List.mem_append_left _ (List.mem_filterMap.2 ⟨.tmp t, by simpa using h, rfl⟩)
theorem eval_avoidK {ops : Array Oper} {N : Nat} {A : Fa} {b : Act} {fp : Nat → Fp} {w : World} {o : Oper} (hR : ∀ i ∈ o.looksAt ops, R N A i b fp w) (ho : avoidK A o = true) : execOp b.eval o = execOp A.a.eval o := by
  unfold avoidK at ho
  rw [Bool.and_eq_true] at ho
  refine execOp_congr o (fun cs bb e => by rw [e] at ho; simp at ho) fun x hx => ?_
  have h1 := List.all_eq_true.1 ho.1 x (by simpa using hx)
  cases x with
  | tmp t =>
    simp only at h1
    have hk : A.κ t = none := by simpa using h1
    exact (hR t (looks_op hx)).none_ hk
  | const v => rfl
  | global g => rfl
  | func f => rfl
/-- arguments, those that are known by their properties alone as they are -/
theorem args_eq {ops : Array Oper} {N : Nat} {A : Fa} {b : Act} {fp : Nat → Fp} {w : World} {o : Oper} (hR : ∀ i ∈ o.looksAt ops, R N A i b fp w) {xs : List Operand} (hx : ∀ x ∈ xs, x ∈ o.op.operands) :
    xs.map b.eval = xs.map fun x => match x with | .tmp t => (match A.κ t with | some _ => b.tmps.getD t undef | none => A.a.tmps.getD t undef) | y => A.a.eval y := by
  refine List.map_congr_left fun x hxx => ?_
  cases x with
  | tmp t =>
    simp only
    cases hk : A.κ t with
    | none => exact (hR t (looks_op (hx _ hxx))).none_ hk
    | some K => rfl
  | const v => rfl
  | global g => rfl
  | func f => rfl
section
variable {P : Program} {ops : Array Oper} {w0 : World} {Q : Fa → Prop} {A : Fa} {o : Oper} {rest : List Oper}
theorem wpK_nil (h : Q A) : wpK P ops w0 Q [] A := h
theorem wpK_of_loose {e : Ef} (hg : o.guard = none) (h : loose P ops w0 o A e) (hK : wpK P ops w0 Q rest (A.put o.dst e)) : wpK P ops w0 Q (o :: rest) A := by
  unfold wpK
  rw [if_pos (Lo.wanted_none hg _)]
  exact ⟨e, h, hK⟩
/-- an operation that looks at known slots alone, and leaves the world -/
theorem wpK_quiet (hg : o.guard = none) (ho : avoidK A o = true) (hp : pureOp o = true) (h : ∀ K : Act → Prop, (∀ a, wpK P ops w0 Q rest ⟨a, k1 A o.dst (.v undef)⟩ → K a) → o.quiet P A.a (fun v => w0.Since w0.heap.size v) K) : wpK P ops w0 Q (o :: rest) A := by
  obtain ⟨v, h1, h2⟩ := h (fun a => wpK P ops w0 Q rest ⟨a, k1 A o.dst (.v undef)⟩) (fun _ h => h)
  refine wpK_of_loose (e := ev v) hg ⟨fun q hq => (by cases hq), fun b fp w hw hN _ hR => ?_⟩ h2
  rw [eval_avoidK hR ho]
  have h3 := h1 w hw
  unfold Oper.quietAt at h3
  generalize hr : (execOp A.a.eval o).run P w = r at h3
  cases r with
  | ok n w2 =>
    cases n <;> simp only [Oper.quietUpon] at h3 <;> simp only [upon]
    case value u => obtain ⟨rfl, rfl⟩ := h3; exact ⟨rfl, World.Since.refl _ _⟩
    case skip => obtain ⟨rfl, rfl⟩ := h3; exact ⟨rfl, World.Since.refl _ _⟩
    case enter f args => exact absurd hr (fun h => pure_no_enter hp h)
  | halt x w2 => simp only [Oper.quietUpon] at h3
/-- an operation whose run is told -/
theorem wpK_told (hg : o.guard = none) (ho : avoidK A o = true) (v : Value) (hrun : ∀ w, w0.Since w0.heap.size w → w0.heap.size ≤ w.heap.size → ∃ w', (execOp A.a.eval o).run P w = .ok (.value v) w' ∧ w.Since w.heap.size w') (hK : wpK P ops w0 Q rest (A.put o.dst (ev v))) : wpK P ops w0 Q (o :: rest) A := by
  refine wpK_of_loose (e := ev v) hg ⟨fun q hq => (by cases hq), fun b fp w hw hN _ hR => ?_⟩ hK
  rw [eval_avoidK hR ho]
  obtain ⟨w', e, hs⟩ := hrun w hw hN
  rw [e]
  exact ⟨rfl, hs⟩
/-- a slot that is known by its properties alone, moved -/
theorem wpK_copy (hg : o.guard = none) (s : Nat) (hop : o.op = .move (.tmp s) ∨ o.op = .assign (.tmp s)) (K : Kd) (hk : A.κ s = some K) (hb : K.bx = false) (hK : wpK P ops w0 Q rest (A.put o.dst ⟨.k K, none⟩)) : wpK P ops w0 Q (o :: rest) A := by
  refine wpK_of_loose (e := ⟨.k K, none⟩) hg ⟨fun q hq => (by cases hq), fun b fp w hw hN _ hR => ?_⟩ hK
  have hm : s ∈ o.looksAt ops := looks_op (by rcases hop with h | h <;> rw [h] <;> simp [Op.operands])
  have h := (hR s hm).some_ hk
  have e : (execOp b.eval o).run P w = .ok (.value (b.tmps.getD s undef)) w := by
    rcases hop with h | h
    · exact BigFrame.run_move (.tmp s) h w
    · exact BigFrame.run_assign (.tmp s) h w
  rw [e]
  exact ⟨⟨h.2.1, fp s, h.2.2.1, (fun h2 => by rw [hb] at h2; cases h2), fun g hg => ⟨h.2.2.2.1 g hg, .inr (.inr ⟨s, K, hm, hk, hb, hg⟩)⟩⟩, World.Since.refl _ _⟩
theorem run_extract {ρ : Operand → Value} {s ix : Nat} (hop : o.op = .extract (.tmp s) ix) {vs : Array Value} {z : Value} (hv : ρ (.tmp s) = .tuple vs) (hz : vs[ix]? = some z) (w : World) : (execOp ρ o).run P w = .ok (.value z) w := by
  simp [execOp, hop, hv, Instr.extract, hz, Result.andThen]
theorem wpK_extract (hg : o.guard = none) (s ix : Nat) (hop : o.op = .extract (.tmp s) ix) (K K2 : Kd) (hk : A.κ s = some K) (hb : K.bx = false) (hb2 : K2.bx = false) (hex : ∀ u S w, K.p u S w → ∃ vs z, u = .tuple vs ∧ vs[ix]? = some z ∧ nb z ∧ K2.p z S w)
    (hK : wpK P ops w0 Q rest (A.put o.dst ⟨.k K2, none⟩)) : wpK P ops w0 Q (o :: rest) A := by
  refine wpK_of_loose (e := ⟨.k K2, none⟩) hg ⟨fun q hq => (by cases hq), fun b fp w hw hN _ hR => ?_⟩ hK
  have hm : s ∈ o.looksAt ops := looks_op (by rw [hop]; simp [Op.operands])
  have h := (hR s hm).some_ hk
  obtain ⟨vs, z, e1, e2, hz, h2⟩ := hex _ _ _ h.2.2.1
  rw [run_extract (P := P) (ρ := b.eval) hop e1 e2 w]
  exact ⟨⟨hz, fp s, h2, (fun h2 => by rw [hb2] at h2; cases h2), fun g hg => ⟨h.2.2.2.1 g hg, .inr (.inr ⟨s, K, hm, hk, hb, hg⟩)⟩⟩, World.Since.refl _ _⟩
theorem wpK_extractV (hg : o.guard = none) (s ix : Nat) (hop : o.op = .extract (.tmp s) ix) (K : Kd) (hk : A.κ s = some K) (z : Value) (hex : ∀ u S w, K.p u S w → ∃ vs, u = .tuple vs ∧ vs[ix]? = some z)
    (hK : wpK P ops w0 Q rest (A.put o.dst (ev z))) : wpK P ops w0 Q (o :: rest) A := by
  refine wpK_of_loose (e := ev z) hg ⟨fun q hq => (by cases hq), fun b fp w hw hN _ hR => ?_⟩ hK
  have hm : s ∈ o.looksAt ops := looks_op (by rw [hop]; simp [Op.operands])
  have h := (hR s hm).some_ hk
  obtain ⟨vs, e1, e2⟩ := hex _ _ _ h.2.2.1
  rw [run_extract (P := P) (ρ := b.eval) hop e1 e2 w]
  exact ⟨rfl, World.Since.refl _ _⟩
theorem run_enter {ρ : Operand → Value} {f : FuncId} {xs : List Operand} {tys : Array TypeId} (hop : o.op = Op.call ⟨.value (.func f), xs.toArray, tys⟩) (hf : ρ (.func f) = .func (.func f) #[] #[]) (henter : ∀ args w2, (callFunc f args).run P w2 = .ok (.enter f args) w2) (w : World) : (execOp ρ o).run P w = .ok (.enter f (xs.map ρ).toArray) w := by
  simp [execOp, hop, resolve, hf, invoke, Deferred.ofValue, henter, Result.andThen]
/-- a call whose result is known by its properties -/
theorem wpK_call (hg : o.guard = none) (f : FuncId) (xs : List Operand) (tys : Array TypeId) (hop : o.op = Op.call ⟨.value (.func f), xs.toArray, tys⟩) (henter : ∀ args w2, (callFunc f args).run P w2 = .ok (.enter f args) w2) (K : Kd) (hb : K.bx = false)
    (hc : ∀ b fp w, w0.Since w0.heap.size w → w0.heap.size ≤ w.heap.size → (∀ i ∈ o.looksAt ops, R w0.heap.size A i b fp w) → Calls P f (xs.map b.eval).toArray w fun e2 w2 => ∃ u S, e2 = .returned u ∧ nb u ∧ K.p u S w2 ∧ w.Since w.heap.size w2 ∧ ∀ g, S g → w.heap.size ≤ g ∧ g < w2.heap.size)
    (hK : wpK P ops w0 Q rest (A.put o.dst ⟨.k K, none⟩)) : wpK P ops w0 Q (o :: rest) A := by
  refine wpK_of_loose (e := ⟨.k K, none⟩) hg ⟨fun q hq => (by cases hq), fun b fp w hw hN _ hR => ?_⟩ hK
  rw [run_enter (P := P) hop rfl henter w]
  exact (hc b fp w hw hN hR).mono fun e2 w2 ⟨u, S, he, h1, h2, h3, h4⟩ => ⟨u, he, ⟨h1, S, h2, (fun h => by rw [hb] at h; cases h), fun g hg => ⟨(h4 g hg).2, .inl (h4 g hg).1⟩⟩, h3⟩
/-- a call with one known result -/
theorem wpK_callV (hg : o.guard = none) (f : FuncId) (xs : List Operand) (tys : Array TypeId) (hop : o.op = Op.call ⟨.value (.func f), xs.toArray, tys⟩) (henter : ∀ args w2, (callFunc f args).run P w2 = .ok (.enter f args) w2) (z : Value)
    (hc : ∀ b fp w, w0.Since w0.heap.size w → w0.heap.size ≤ w.heap.size → (∀ i ∈ o.looksAt ops, R w0.heap.size A i b fp w) → Calls P f (xs.map b.eval).toArray w fun e2 w2 => e2 = .returned z ∧ w.Since w.heap.size w2)
    (hK : wpK P ops w0 Q rest (A.put o.dst (ev z))) : wpK P ops w0 Q (o :: rest) A := by
  refine wpK_of_loose (e := ev z) hg ⟨fun q hq => (by cases hq), fun b fp w hw hN _ hR => ?_⟩ hK
  rw [run_enter (P := P) hop rfl henter w]
  exact (hc b fp w hw hN hR).mono fun e2 w2 ⟨he, h3⟩ => ⟨z, he, rfl, h3⟩
/-- a box of the statement's own -/
def bxP (T : TypeId) (Pc : List Value → Prop) (u : Value) (S : Fp) (w : World) : Prop := ∃ (g : Nat) (cs : List Value), u = .pointer (some ⟨g, 0, none⟩) ∧ (∀ k, S k ↔ k = g) ∧ w.heap[g]? = some (.cells cs.toArray T (0, 0)) ∧ Pc cs
def bxK (T : TypeId) (Pc : List Value → Prop) : Kd where
  p := bxP T Pc
  stable := fun u S w w' h hp => by
    obtain ⟨g, cs, e, hS, hb, hc⟩ := hp
    exact ⟨g, cs, e, hS, (h g ((hS g).2 rfl)).trans hb, hc⟩
  bx := true
theorem wpK_alloc (hg : o.guard = none) (elem : TypeId) (hop : o.op = .alloc elem) (T : TypeId) (cs : List Value) (hrun : ∀ w : World, (Instr.alloc elem true (.tuple #[])).run P w = .ok (.pointer (some ⟨w.heap.size, 0, none⟩)) (w.alloc (.cells cs.toArray T)))
    (hK : wpK P ops w0 Q rest (A.put o.dst ⟨.k (bxK T (· = cs)), none⟩)) : wpK P ops w0 Q (o :: rest) A := by
  refine wpK_of_loose (e := ⟨.k (bxK T (· = cs)), none⟩) hg ⟨fun q hq => (by cases hq), fun b fp w hw hN _ hR => ?_⟩ hK
  have e : (execOp b.eval o).run P w = .ok (.value (.pointer (some ⟨w.heap.size, 0, none⟩))) (w.alloc (.cells cs.toArray T)) := by
    simp [execOp, hop, hrun, Result.andThen]
  rw [e]
  refine ⟨⟨trivial, fun k => k = w.heap.size, ⟨_, cs, rfl, fun k => Iff.rfl, Go.Deep.blk_alloc_new _ _, rfl⟩, fun _ g hg => by rw [hg]; exact Nat.le_refl _, fun g hg => ?_⟩, (World.Since.refl _ _).alloc (Nat.le_refl _) _⟩
  have hg' : g = w.heap.size := hg
  subst hg'
  exact ⟨by simp, .inl (Nat.le_refl _)⟩
theorem setCells_size (g : Nat) : ∀ (vs : List Value) (o : Nat) (w : World), (w.setCells g o vs).heap.size = w.heap.size
  | [], _, _ => rfl
  | v :: r, o, w => by rw [World.setCells, setCells_size g r]; exact Go.Deep.nblk_setCell _ _ _
theorem setCells_other (g : Nat) : ∀ (vs : List Value) (o : Nat) (w : World) (k : Nat), k ≠ g → (w.setCells g o vs).heap[k]? = w.heap[k]?
  | [], _, _, _, _ => rfl
  | v :: r, o, w, k, hk => by rw [World.setCells, setCells_other g r _ _ k hk]; exact Go.Deep.blk_setCell_other _ _ _ _ hk
theorem setCells_since {N g : Nat} (hg : N ≤ g) : ∀ (vs : List Value) (o : Nat) (w : World), w.Since N (w.setCells g o vs)
  | [], _, _ => World.Since.refl _ _
  | v :: r, o, w => ((World.Since.refl _ _).setCell hg _).trans (setCells_since hg r _ _)
theorem setCells_blk {T : TypeId} {g : Nat} : ∀ (vs : List Value) (o : Nat) (w : World) (cs : Array Value), w.heap[g]? = some (.cells cs T (0, 0)) → o + vs.length ≤ cs.size →
    ∃ cs', (w.setCells g o vs).heap[g]? = some (.cells cs' T (0, 0)) ∧ cs'.size = cs.size ∧ (∀ j, j < o → cs'[j]? = cs[j]?) ∧ ∀ j, j < vs.length → cs'[o + j]? = vs[j]?
  | [], _, _, cs, h, _ => ⟨cs, h, rfl, fun _ _ => rfl, fun j hj => by simp at hj⟩
  | v :: r, o, w, cs, h, hl => by
    have h1 : (w.setCell ⟨g, o, none⟩ v).heap[g]? = some (.cells (cs.setIfInBounds o v) T (0, 0)) := by simp [World.setCell, Array.getElem?_modify, h]
    obtain ⟨cs', e1, e2, e3, e4⟩ := setCells_blk r (o + 1) _ _ h1 (by simp only [List.length_cons] at hl; simp; omega)
    refine ⟨cs', e1, by rw [e2]; simp, fun j hj => ?_, fun j hj => ?_⟩
    · rw [e3 j (by omega), Array.getElem?_setIfInBounds_ne (by omega)]
    · cases j with
      | zero =>
        rw [Nat.add_zero, e3 o (by omega)]
        simp only [List.length_cons] at hl
        rw [Array.getElem?_setIfInBounds_self_of_lt (by omega)]
        rfl
      | succ j =>
        have := e4 j (by simp only [List.length_cons] at hj; omega)
        rw [show o + (j + 1) = o + 1 + j by omega, this]
        rfl
theorem setCells_whole {T : TypeId} {g : Nat} {vs cs : List Value} {w : World} (h : w.heap[g]? = some (.cells cs.toArray T (0, 0))) (hl : vs.length = cs.length) : (w.setCells g 0 vs).heap[g]? = some (.cells vs.toArray T (0, 0)) := by
  obtain ⟨cs', e1, e2, e3, e4⟩ := setCells_blk vs 0 w cs.toArray h (by simp; omega)
  rw [e1]
  congr 2
  apply Array.ext_getElem?
  intro i
  by_cases hi : i < vs.length
  · have := e4 i hi
    rw [Nat.zero_add] at this
    rw [this]; simp
  · rw [Array.getElem?_eq_none (by rw [e2]; simp; omega), Array.getElem?_eq_none (by simp; omega)]
theorem wpK_store (hg : o.guard = none) (ty : TypeId) (p : Nat) (y : Operand) (hop : o.op = .store ty (.tmp p) y) (hd : o.dst = none) (T : TypeId) (Pc Pc' : List Value → Prop) (hk : A.κ p = some (bxK T Pc)) (n : Nat) (hn : ∀ cs, Pc cs → cs.length = n) (hi : (P.info? ty).map (·.size) = some n)
    (hy : ∀ b fp w, w0.Since w0.heap.size w → w0.heap.size ≤ w.heap.size → (∀ i ∈ o.looksAt ops, R w0.heap.size A i b fp w) → ∃ cs : List Value, b.eval y = .agg cs.toArray ∧ cs.length = n ∧ Pc' cs ∧ cs.toArray.all (·.oneCell') = true)
    (hK : wpK P ops w0 Q rest (A.put o.dst ⟨.v undef, some (p, bxK T Pc')⟩)) : wpK P ops w0 Q (o :: rest) A := by
  refine wpK_of_loose (e := ⟨.v undef, some (p, bxK T Pc')⟩) hg ⟨fun q hq => ?_, fun b fp w hw hN _ hR => ?_⟩ hK
  · injection hq with hq
    subst hq
    exact ⟨hd, by unfold stOf; rw [hop]⟩
  · have hm : p ∈ o.looksAt ops := looks_op (by rw [hop]; simp [Op.operands])
    have h := (hR p hm).some_ hk
    obtain ⟨g, cs, e1, hS, hb, hc⟩ := h.2.2.1
    obtain ⟨cs', e2, hl, hc', h1⟩ := hy b fp w hw hN hR
    have hl2 : cs'.length = cs.length := by rw [hl, hn cs hc]
    have ht : w.there g 0 cs'.toArray.size := fun j hj => by
      have hj2 : j < cs.length := by rw [← hl2]; simpa using hj
      rw [Nat.zero_add]
      exact ⟨by simp [World.cell?, hb, hj2], by simp [World.frozen?, hb]⟩
    have er := run_storeAt_mid (P := P) w g 0 ty cs'.toArray ht (by rw [hi]; simp [hl]) h1
    have ex : (execOp b.eval o).run P w = .ok .skip (w.setCells g 0 cs') := by
      have e1' : b.eval (.tmp p) = .pointer (some ⟨g, 0, none⟩) := e1
      simp [execOp, hop, e1', e2, er, Result.andThen]
    have hNg := h.2.2.2.2 rfl g ((hS g).2 rfl)
    rw [ex]
    refine ⟨rfl, setCells_since hNg _ _ _, setCells_size _ _ _ _, ⟨_, hk, rfl⟩, rfl, ⟨g, cs', e1, hS, setCells_whole hb hl2, hc'⟩, fun k hk => setCells_other g _ _ _ k fun e => hk ((hS k).2 e)⟩
end
/-! ### the steps, the frame and what is known apart -/
section
variable {P : Program} {ops : Array Oper} {w0 : World} {Q : Fa → Prop} {a : Act} {κ : Nat → Option Kd} {o : Oper} {rest : List Oper} {d : Nat}
theorem put_some {x : Va} (hs : d < a.tmps.size) : (Fa.mk a κ).put (some d) ⟨x, none⟩ = ⟨a.put (some d) x.val, upd κ d x.kd⟩ := by
  simp [Fa.put, k2, k1, hs]
theorem upd_none (hk : κ d = none) : upd κ d none = κ := by
  funext i
  unfold upd
  by_cases e : i = d
  · subst e; rw [if_pos rfl, hk]
  · rw [if_neg e]
theorem k1_known (hk : κ d = none) (x : Value) : k1 ⟨a, κ⟩ (some d) (.v x) = κ := by
  simp only [k1, Va.kd]
  split
  · exact upd_none hk
  · rfl
theorem put_known {u : Value} (hk : κ d = none) : (Fa.mk a κ).put (some d) (ev u) = ⟨a.put (some d) u, κ⟩ := by
  simp [Fa.put, k2, k1_known hk, ev, Va.val]
theorem sQuiet (hg : o.guard = none) (hd : o.dst = some d) (hk : κ d = none) (ho : avoidK ⟨a, κ⟩ o = true) (hp : pureOp o = true) (h : ∀ K : Act → Prop, (∀ a, wpK P ops w0 Q rest ⟨a, κ⟩ → K a) → o.quiet P a (fun v => w0.Since w0.heap.size v) K) : wpK P ops w0 Q (o :: rest) ⟨a, κ⟩ :=
  wpK_quiet hg ho hp fun K hK => h K fun a' ha => hK a' (by rw [hd, k1_known hk]; exact ha)
theorem sMove (hg : o.guard = none) (hd : o.dst = some d) (hk : κ d = none) (ho : avoidK ⟨a, κ⟩ o = true) (x : Operand) (hop : o.op = .move x ∨ o.op = .assign x) (hK : wpK P ops w0 Q rest ⟨a.put (some d) (a.eval x), κ⟩) : wpK P ops w0 Q (o :: rest) ⟨a, κ⟩ :=
  wpK_told hg ho (a.eval x) (fun w _ _ => ⟨w, by
    rcases hop with h | h
    · exact BigFrame.run_move x h w
    · exact BigFrame.run_assign x h w, World.Since.refl _ _⟩) (by rw [hd, put_known hk]; exact hK)
theorem sTold (hg : o.guard = none) (hd : o.dst = some d) (hk : κ d = none) (ho : avoidK ⟨a, κ⟩ o = true) (v : Value) (hrun : ∀ w, w0.Since w0.heap.size w → w0.heap.size ≤ w.heap.size → ∃ w', (execOp a.eval o).run P w = .ok (.value v) w' ∧ w.Since w.heap.size w') (hK : wpK P ops w0 Q rest ⟨a.put (some d) v, κ⟩) : wpK P ops w0 Q (o :: rest) ⟨a, κ⟩ :=
  wpK_told hg ho v hrun (by rw [hd, put_known hk]; exact hK)
/-- a struct is loaded from the law's box -/
theorem sRow (hg : o.guard = none) (hd : o.dst = some d) (hk : κ d = none) (ho : avoidK ⟨a, κ⟩ o = true) (ty : TypeId) (x : Operand) (hop : o.op = .load ty x) (b off : Nat) (hx : a.eval x = .pointer (some ⟨b, off, none⟩)) (cs : List Value) (ds : TypeDesc)
    (hu : P.underlying ty = some ds) (hr : ds.isRow = true) (hi : (P.info? ty).map (·.size) = some cs.length) (hS : ∀ v, w0.Since w0.heap.size v → v.rangeAt b off cs)
    (hK : wpK P ops w0 Q rest ⟨a.put (some d) (.agg cs.toArray), κ⟩) : wpK P ops w0 Q (o :: rest) ⟨a, κ⟩ :=
  sTold hg hd hk ho _ (fun w hw _ => ⟨w, by
    unfold execOp
    simp only [hop, hx, Instr.loadAt, Instr.sureAddr, Sem.run_bind, Sem.run_pure, Result.andThen_ok, Go.run_loadVar_mid w b off ty cs ds (hS w hw) hu hr hi], World.Since.refl _ _⟩) hK
theorem sCopy (hg : o.guard = none) (hd : o.dst = some d) (hs : d < a.tmps.size) (s : Nat) (hop : o.op = .move (.tmp s) ∨ o.op = .assign (.tmp s)) (K : Kd) (hk : κ s = some K) (hb : K.bx = false) (hK : wpK P ops w0 Q rest ⟨a.put (some d) undef, upd κ d (some K)⟩) : wpK P ops w0 Q (o :: rest) ⟨a, κ⟩ :=
  wpK_copy hg s hop K hk hb (by rw [hd, put_some hs]; exact hK)
theorem sExtract (hg : o.guard = none) (hd : o.dst = some d) (hs : d < a.tmps.size) (s ix : Nat) (hop : o.op = .extract (.tmp s) ix) (K K2 : Kd) (hk : κ s = some K) (hb : K.bx = false) (hb2 : K2.bx = false) (hex : ∀ u S w, K.p u S w → ∃ vs z, u = .tuple vs ∧ vs[ix]? = some z ∧ nb z ∧ K2.p z S w)
    (hK : wpK P ops w0 Q rest ⟨a.put (some d) undef, upd κ d (some K2)⟩) : wpK P ops w0 Q (o :: rest) ⟨a, κ⟩ :=
  wpK_extract hg s ix hop K K2 hk hb hb2 hex (by rw [hd, put_some hs]; exact hK)
theorem sExtractV (hg : o.guard = none) (hd : o.dst = some d) (hkd : κ d = none) (s ix : Nat) (hop : o.op = .extract (.tmp s) ix) (K : Kd) (hk : κ s = some K) (z : Value) (hex : ∀ u S w, K.p u S w → ∃ vs, u = .tuple vs ∧ vs[ix]? = some z)
    (hK : wpK P ops w0 Q rest ⟨a.put (some d) z, κ⟩) : wpK P ops w0 Q (o :: rest) ⟨a, κ⟩ :=
  wpK_extractV hg s ix hop K hk z hex (by rw [hd, put_known hkd]; exact hK)
theorem sCall (hg : o.guard = none) (hd : o.dst = some d) (hs : d < a.tmps.size) (f : FuncId) (xs : List Operand) (tys : Array TypeId) (hop : o.op = Op.call ⟨.value (.func f), xs.toArray, tys⟩) (henter : ∀ args w2, (callFunc f args).run P w2 = .ok (.enter f args) w2) (K : Kd) (hb : K.bx = false)
    (hc : ∀ b fp w, w0.Since w0.heap.size w → w0.heap.size ≤ w.heap.size → (∀ i ∈ o.looksAt ops, R w0.heap.size ⟨a, κ⟩ i b fp w) → Calls P f (xs.map b.eval).toArray w fun e2 w2 => ∃ u S, e2 = .returned u ∧ nb u ∧ K.p u S w2 ∧ w.Since w.heap.size w2 ∧ ∀ g, S g → w.heap.size ≤ g ∧ g < w2.heap.size)
    (hK : wpK P ops w0 Q rest ⟨a.put (some d) undef, upd κ d (some K)⟩) : wpK P ops w0 Q (o :: rest) ⟨a, κ⟩ :=
  wpK_call hg f xs tys hop henter K hb hc (by rw [hd, put_some hs]; exact hK)
theorem mem_call {f : Operand} {xs : List Operand} {tys : Array TypeId} (hop : o.op = Op.call ⟨.value f, xs.toArray, tys⟩) : ∀ x ∈ xs, x ∈ o.op.operands := fun x hx => by
  rw [hop]
  simp [Op.operands, Call.operands, hx]
/-- a call of known arguments -/
theorem sCallK (hg : o.guard = none) (hd : o.dst = some d) (hs : d < a.tmps.size) (f : FuncId) (xs : List Operand) (tys : Array TypeId) (hop : o.op = Op.call ⟨.value (.func f), xs.toArray, tys⟩) (henter : ∀ args w2, (callFunc f args).run P w2 = .ok (.enter f args) w2) (ho : avoidK ⟨a, κ⟩ o = true) (vs : List Value) (hvs : xs.map a.eval = vs) (K : Kd) (hb : K.bx = false)
    (hc : ∀ w, w0.Since w0.heap.size w → w0.heap.size ≤ w.heap.size → Calls P f vs.toArray w fun e2 w2 => ∃ u S, e2 = .returned u ∧ nb u ∧ K.p u S w2 ∧ w.Since w.heap.size w2 ∧ ∀ g, S g → w.heap.size ≤ g ∧ g < w2.heap.size)
    (hK : wpK P ops w0 Q rest ⟨a.put (some d) undef, upd κ d (some K)⟩) : wpK P ops w0 Q (o :: rest) ⟨a, κ⟩ :=
  sCall hg hd hs f xs tys hop henter K hb (fun b fp w hw hN hR => by
    have e : xs.map b.eval = vs := by
      rw [← hvs]
      refine List.map_congr_left fun x hx => ?_
      unfold avoidK at ho
      rw [Bool.and_eq_true] at ho
      have h1 := List.all_eq_true.1 ho.1 x (by simpa using mem_call hop x hx)
      cases x with
      | tmp t =>
        simp only at h1
        exact (hR t (looks_op (mem_call hop _ hx))).none_ (by simpa using h1)
      | const v => rfl
      | global g => rfl
      | func f => rfl
    rw [e]
    exact hc w hw hN) hK
/-- a call of known arguments with one known value -/
theorem sCallV (hg : o.guard = none) (hd : o.dst = some d) (hk : κ d = none) (f : FuncId) (xs : List Operand) (tys : Array TypeId) (hop : o.op = Op.call ⟨.value (.func f), xs.toArray, tys⟩) (henter : ∀ args w2, (callFunc f args).run P w2 = .ok (.enter f args) w2) (ho : avoidK ⟨a, κ⟩ o = true) (vs : List Value) (hvs : xs.map a.eval = vs) (z : Value)
    (hc : ∀ w, w0.Since w0.heap.size w → w0.heap.size ≤ w.heap.size → Calls P f vs.toArray w fun e2 w2 => e2 = .returned z ∧ w.Since w.heap.size w2)
    (hK : wpK P ops w0 Q rest ⟨a.put (some d) z, κ⟩) : wpK P ops w0 Q (o :: rest) ⟨a, κ⟩ :=
  wpK_callV hg f xs tys hop henter z (fun b fp w hw hN hR => by
    have e : xs.map b.eval = vs := by
      rw [← hvs]
      refine List.map_congr_left fun x hx => ?_
      unfold avoidK at ho
      rw [Bool.and_eq_true] at ho
      have h1 := List.all_eq_true.1 ho.1 x (by simpa using mem_call hop x hx)
      cases x with
      | tmp t =>
        simp only at h1
        exact (hR t (looks_op (mem_call hop _ hx))).none_ (by simpa using h1)
      | const v => rfl
      | global g => rfl
      | func f => rfl
    rw [e]
    exact hc w hw hN) (by rw [hd, put_known hk]; exact hK)
/-- a call, one of whose arguments is known by its properties -/
theorem sCall1 (hg : o.guard = none) (hd : o.dst = some d) (hs : d < a.tmps.size) (f : FuncId) (xs : List Operand) (tys : Array TypeId) (hop : o.op = Op.call ⟨.value (.func f), xs.toArray, tys⟩) (henter : ∀ args w2, (callFunc f args).run P w2 = .ok (.enter f args) w2) (s : Nat) (hin : (.tmp s : Operand) ∈ xs) (K0 : Kd) (hks : κ s = some K0) (V : Value → List Value)
    (hV : ∀ b : Act, (xs.map fun x => match x with | .tmp t => (match κ t with | some _ => b.tmps.getD t undef | none => a.tmps.getD t undef) | y => a.eval y) = V (b.tmps.getD s undef)) (K : Kd) (hb : K.bx = false)
    (hc : ∀ u S w, w0.Since w0.heap.size w → w0.heap.size ≤ w.heap.size → K0.p u S w → Calls P f (V u).toArray w fun e2 w2 => ∃ u S, e2 = .returned u ∧ nb u ∧ K.p u S w2 ∧ w.Since w.heap.size w2 ∧ ∀ g, S g → w.heap.size ≤ g ∧ g < w2.heap.size)
    (hK : wpK P ops w0 Q rest ⟨a.put (some d) undef, upd κ d (some K)⟩) : wpK P ops w0 Q (o :: rest) ⟨a, κ⟩ :=
  sCall hg hd hs f xs tys hop henter K hb (fun b fp w hw hN hR => by
    have e := args_eq hR (mem_call hop)
    rw [e]
    have h := (hR s (looks_op (mem_call hop _ hin))).some_ hks
    have := hc _ _ w hw hN h.2.2.1
    rw [← hV b] at this
    exact this) hK
theorem sAlloc (hg : o.guard = none) (hd : o.dst = some d) (hs : d < a.tmps.size) (elem : TypeId) (hop : o.op = .alloc elem) (T : TypeId) (cs : List Value) (hrun : ∀ w : World, (Instr.alloc elem true (.tuple #[])).run P w = .ok (.pointer (some ⟨w.heap.size, 0, none⟩)) (w.alloc (.cells cs.toArray T)))
    (hK : wpK P ops w0 Q rest ⟨a.put (some d) undef, upd κ d (some (bxK T (· = cs)))⟩) : wpK P ops w0 Q (o :: rest) ⟨a, κ⟩ :=
  wpK_alloc hg elem hop T cs hrun (by rw [hd, put_some hs]; exact hK)
/-- a known struct is stored into a box of the statement's own -/
theorem sStore (hg : o.guard = none) (ty : TypeId) (p : Nat) (y : Operand) (hop : o.op = .store ty (.tmp p) y) (hd : o.dst = none) (T : TypeId) (Pc : List Value → Prop) (hk : κ p = some (bxK T Pc)) (n : Nat) (hn : ∀ cs, Pc cs → cs.length = n) (hi : (P.info? ty).map (·.size) = some n)
    (ho : avoidK ⟨a, fun i => if i = p then none else κ i⟩ o = true) (cs : List Value) (hy : a.eval y = .agg cs.toArray) (hyp : y ≠ .tmp p) (hl : cs.length = n) (h1 : cs.toArray.all (·.oneCell') = true)
    (hK : wpK P ops w0 Q rest ⟨a, upd κ p (some (bxK T (· = cs)))⟩) : wpK P ops w0 Q (o :: rest) ⟨a, κ⟩ :=
  wpK_store hg ty p y hop hd T Pc (· = cs) hk n hn hi (fun b fp w hw hN hR => ⟨cs, by
    rw [← hy]
    unfold avoidK at ho
    rw [Bool.and_eq_true] at ho
    cases y with
    | tmp t =>
      have h1 := List.all_eq_true.1 ho.1 (.tmp t) (by rw [hop]; simp [Op.operands])
      have hne : t ≠ p := fun e => hyp (by rw [e])
      simp only [if_neg hne] at h1
      exact (hR t (looks_op (by rw [hop]; simp [Op.operands]))).none_ (by simpa using h1)
    | const v => rfl
    | global g => rfl
    | func f => rfl, hl, rfl, h1⟩) (by rw [hd]; simpa [Fa.put, Act.put, k2, k1] using hK)
/-- a struct known by its properties is stored into a box of the statement's own -/
theorem sStoreK (hg : o.guard = none) (ty : TypeId) (p s : Nat) (hop : o.op = .store ty (.tmp p) (.tmp s)) (hd : o.dst = none) (T : TypeId) (Pc Pc' : List Value → Prop) (hk : κ p = some (bxK T Pc)) (K : Kd) (hks : κ s = some K) (n : Nat) (hn : ∀ cs, Pc cs → cs.length = n) (hi : (P.info? ty).map (·.size) = some n)
    (hy : ∀ u S w, K.p u S w → ∃ cs : List Value, u = .agg cs.toArray ∧ cs.length = n ∧ Pc' cs ∧ cs.toArray.all (·.oneCell') = true)
    (hK : wpK P ops w0 Q rest ⟨a, upd κ p (some (bxK T Pc'))⟩) : wpK P ops w0 Q (o :: rest) ⟨a, κ⟩ :=
  wpK_store hg ty p (.tmp s) hop hd T Pc Pc' hk n hn hi (fun b fp w hw hN hR => hy _ _ _ ((hR s (looks_op (by rw [hop]; simp [Op.operands]))).some_ hks).2.2.1) (by rw [hd]; simpa [Fa.put, Act.put, k2, k1] using hK)
end
/-! ### the end -/
theorem After.slot {w0 : World} {A : Fa} {Rr : Act → (Nat → Fp) → World → Prop} (d : Nat) (K : Kd) (hk : A.κ d = some K)
    (h : ∀ u, nb u → After w0 ⟨A.a.put (some d) u, upd A.κ d none⟩ fun b fp w => K.p u (fp d) w → (∀ g, fp d g → g < w.heap.size) → (K.bx = true → ∀ g, fp d g → w0.heap.size ≤ g) → Rr b fp w) : After w0 A Rr := by
  intro b fp w hw hN hab
  have hd := (hab.2.2.1 d).some_ hk
  refine h (b.tmps.getD d undef) hd.2.1 b fp w hw hN ⟨hab.1, by rw [put_size]; exact hab.2.1, fun i => ?_, fun i j K1 K2 hij hi hj hb => ?_⟩ hd.2.2.1 hd.2.2.2.1 hd.2.2.2.2
  · by_cases e : i = d
    · subst e
      refine R_of_none (by simp [upd]) ?_
      show _ = (A.a.tmps.setIfInBounds i (b.tmps.getD i undef)).getD i undef
      rw [Lo.getD_put]
      by_cases hs : i < A.a.tmps.size
      · rw [if_pos ⟨rfl, hs⟩]
      · rw [if_neg (fun h => hs h.2)]
        have e1 : A.a.tmps.getD i undef = undef := by simp [Array.getD_eq_getD_getElem?, Array.getElem?_eq_none (Nat.le_of_not_lt hs)]
        have e2 : b.tmps.getD i undef = undef := by
          have h2 := hab.2.1
          simp [Array.getD_eq_getD_getElem?, Array.getElem?_eq_none (show b.tmps.size ≤ i by rw [h2]; exact Nat.le_of_not_lt hs)]
        rw [e1, e2]
    · have hki : (Fa.mk (A.a.put (some d) (b.tmps.getD d undef)) (upd A.κ d none)).κ i = A.κ i := by simp [upd, e]
      have hv : (A.a.put (some d) (b.tmps.getD d undef)).tmps.getD i undef = A.a.tmps.getD i undef := by
        show (A.a.tmps.setIfInBounds d (b.tmps.getD d undef)).getD i undef = _
        rw [Lo.getD_put, if_neg (fun h => e h.1.symm)]
      have h3 := hab.2.2.1 i
      unfold R at h3 ⊢
      rw [hki]
      simp only [hv]
      exact h3
  · have hi' : i ≠ d ∧ A.κ i = some K1 := by
      by_cases e : i = d
      · subst e; simp [upd] at hi
      · exact ⟨e, by simpa [upd, e] using hi⟩
    have hj' : j ≠ d ∧ A.κ j = some K2 := by
      by_cases e : j = d
      · subst e; simp [upd] at hj
      · exact ⟨e, by simpa [upd, e] using hj⟩
    exact hab.2.2.2 i j K1 K2 hij hi'.2 hj'.2 hb
theorem After.apart {w0 : World} {A : Fa} {Rr : Act → (Nat → Fp) → World → Prop} (i j : Nat) (K K' : Kd) (hi : A.κ i = some K) (hj : A.κ j = some K') (hb : K.bx = true) (hne : i ≠ j)
    (h : After w0 A fun b fp w => (∀ g, fp i g → ¬ fp j g) → Rr b fp w) : After w0 A Rr := fun b fp w hw hN hab => h b fp w hw hN hab (hab.2.2.2 i j K K' hne hi hj hb)
def nbut (ds : List Nat) (κ : Nat → Option Kd) : Prop := ∀ i, i ∉ ds → κ i = none
theorem nbut.start {ds : List Nat} : nbut ds (fun _ => none) := fun _ _ => rfl
theorem nbut.upd {ds : List Nat} {κ : Nat → Option Kd} {d : Nat} {k : Option Kd} (hd : d ∈ ds) (h : nbut ds κ) : nbut ds (Lk.upd κ d k) := fun i hi => by
  have : i ≠ d := fun e => hi (e ▸ hd)
  simp only [Lk.upd, if_neg this]
  exact h i hi
theorem After.end_ {w0 : World} {a : Act} {κ : Nat → Option Kd} {Rr : Act → (Nat → Fp) → World → Prop} (ds : List Nat) (hn : nbut ds κ) (hk : (ds.all fun d => (κ d).isNone) = true) (h : ∀ fp w, w0.Since w0.heap.size w → Rr a fp w) : After w0 ⟨a, κ⟩ Rr := by
  intro b fp w hw hN hab
  obtain ⟨h1, h2, h3, _⟩ := hab
  have hall : ∀ i, κ i = none := fun i => by
    by_cases hi : i ∈ ds
    · have := List.all_eq_true.1 hk i hi
      simpa using this
    · exact hn i hi
  have e : b = a := by
    obtain ⟨bt, bd⟩ := b
    obtain ⟨at_, ad⟩ := a
    simp only at h1 h2 h3
    subst h1
    congr 1
    apply Array.ext h2
    intro i hi1 hi2
    have := (h3 i).none_ (hall i)
    simpa [Array.getD_eq_getD_getElem?, hi1, hi2] using this
  subst e
  exact h fp w hw
end Lk
end Go.Proofs.Ytfgebggfoboalaa

/- What is known of a slot: lists of numbers, boxes. -/
set_option linter.unusedVariables false
set_option linter.unusedSimpArgs false
namespace Go.Proofs.Ytfgebggfoboalaa
open Fl Go.RowKit
namespace Lk
/-- an entry among these blocks, behind lo -/
def EnK (lo : Nat) (e : En) (S : Fp) (w : World) : Prop := e.P w ∧ (∀ w w' : World, (∀ g, e.S g → w'.heap[g]? = w.heap[g]?) → e.P w → e.P w') ∧ (∀ k, e.S k → S k) ∧ ∀ k, e.S k → lo ≤ k
theorem EnK.keep {lo : Nat} {e : En} {S : Fp} {w w' : World} (h : EnK lo e S w) (hs : ∀ g, S g → w'.heap[g]? = w.heap[g]?) : EnK lo e S w' := ⟨h.2.1 w w' (fun g hg => hs g (h.2.2.1 g hg)) h.1, h.2⟩
theorem EnK.of {lo B : Nat} {e : En} {w : World} (h : Ge B w e) (hl : lo ≤ B) : EnK lo e e.S w := ⟨h.1, h.2.1, fun _ h => h, fun k hk => Nat.le_trans hl (h.2.2 k hk).1⟩
theorem EnK.ge {lo : Nat} {e : En} {S : Fp} {w : World} (h : EnK lo e S w) (hb : ∀ g, S g → g < w.heap.size) : Ge lo w e := ⟨h.1, h.2.1, fun g hg => ⟨h.2.2.2 g hg, hb g (h.2.2.1 g hg)⟩⟩
theorem EnK.readF {lo n : Nat} {A : Option Addr} {xs : List Nat} {S : Fp} {w : World} (h : EnK lo (fe A n xs) S w) : Fs w w.heap.size A n xs :=
  ⟨h.1.1.1, h.1.1.2, fun hn => by
    obtain ⟨g, off, cs, e, hb, hc⟩ := h.1.2 hn
    refine ⟨g, off, e, (Array.getElem?_eq_some_iff.1 hb).1, fun k hk => ?_⟩
    simp only [World.cell?, hb]
    simpa using hc k hk⟩
/-- a copy of numbers -/
def xK (lo n : Nat) (xs : List Nat) : Kd where
  p := fun u S w => ∃ B : Nat, u = .slice (some ⟨B, 0, none⟩) n n ∧ EnK lo (fe (some ⟨B, 0, none⟩) n xs) S w
  stable := fun u S w w' h hp => by
    obtain ⟨B, e, hb⟩ := hp
    exact ⟨B, e, hb.keep h⟩
  bx := false
/-- a list of numbers -/
def feK (lo n0 : Nat) (f0 : Nat → O) : Kd where
  p := fun u S w => ∃ (p : Ls) (c : Nat), u = .slice p.A p.n c ∧ p.n = n0 ∧ Are p f0 ∧ EnK lo (fe p.A p.n p.xs) S w
  stable := fun u S w w' h hp => by
    obtain ⟨p, c, e, h1, h2, hb⟩ := hp
    exact ⟨p, c, e, h1, h2, hb.keep h⟩
  bx := false
theorem box_ge {T : TypeId} {Pc : List Value → Prop} {u : Value} {S : Fp} {w : World} {lo : Nat} (h : (bxK T Pc).p u S w) (hb : ∀ g, S g → g < w.heap.size) (hl : ∀ g, S g → lo ≤ g) : ∃ g cs, u = .pointer (some ⟨g, 0, none⟩) ∧ Pc cs ∧ (∀ k, S k ↔ k = g) ∧ Ge lo w (bxv T g cs) := by
  obtain ⟨g, cs, e, hS, hh, hc⟩ := h
  exact ⟨g, cs, e, hc, hS, hh, fun w w' h hp => (h g rfl).trans hp, fun k hk => by
    have hk' : k = g := hk
    subst hk'
    exact ⟨hl k ((hS k).2 rfl), hb k ((hS k).2 rfl)⟩⟩
theorem box_de {T : TypeId} {g : Nat} {cs : List Value} {S S' : Fp} {e : En} {lo : Nat} {w : World} (hS : ∀ k, S k ↔ k = g) (hd : ∀ k, S k → ¬ S' k) (h : EnK lo e S' w) : De (bxv T g cs) e := fun k hk he => hd k ((hS k).2 hk) (h.2.2.1 k he)
end Lk
end Go.Proofs.Ytfgebggfoboalaa

/- Loose regions with guards. -/
set_option linter.unusedVariables false
set_option linter.unusedSimpArgs false
namespace Go.Proofs.Ytfgebggfoboalaa
open Fl Go.RowKit
namespace Lk
section
variable {P : Program} {ops : Array Oper} {w0 : World} {Q : Fa → Prop} {A : Fa} {o : Oper} {rest : List Oper}
/-- an operation without its guard -/
def free (o : Oper) : Oper := { o with guard := none }
theorem looks_free {i : Nat} (h : i ∈ (free o).looksAt ops) : i ∈ o.looksAt ops := by
  unfold Oper.looksAt at h ⊢
  rcases List.mem_append.1 h with h | h
  · exact List.mem_append_left _ h
  · cases h
theorem good_free {N : Nat} {b : Act} {fp : Nat → Fp} {w : World} {e : Ef} {u : Value} {w' : World} (h : good ops N (free o) A b fp w e u w') : good ops N o A b fp w e u w' := by
  obtain ⟨x, st⟩ := e
  unfold good at h ⊢
  refine ⟨?_, h.2⟩
  cases x with
  | v z => exact h.1
  | k K =>
    obtain ⟨h1, S, h2, h3, h4⟩ := h.1
    refine ⟨h1, S, h2, h3, fun g hg => ⟨(h4 g hg).1, ?_⟩⟩
    rcases (h4 g hg).2 with h5 | h5 | ⟨j, K', h6, h7⟩
    · exact .inl h5
    · exact .inr (.inl h5)
    · exact .inr (.inr ⟨j, K', looks_free h6, h7⟩)
theorem upon_mono {G H : Value → World → Prop} (hGH : ∀ u w, G u w → H u w) {r : Result Next} (h : upon P G r) : upon P H r := by
  cases r with
  | ok n w2 =>
    cases n with
    | value u => exact hGH _ _ h
    | skip => exact hGH _ _ h
    | enter f args => exact Calls.mono h fun e w3 ⟨u, he, hu⟩ => ⟨u, he, hGH _ _ hu⟩
    | _ => exact h
  | halt x w2 => exact h
/-- an operation whose guard says yes -/
theorem wpK_yes {q : Nat × Bool} (hg : o.guard = some q) (hw : Region.wanted o (yielded ops A.a.tmps) = true) (h : wpK P ops w0 Q (⟨o.dst, o.op, o.type, o.pos, o.after, none⟩ :: rest) A) : wpK P ops w0 Q (o :: rest) A := by
  have h' : wpK P ops w0 Q (free o :: rest) A := h
  unfold wpK at h' ⊢
  rw [if_pos hw]
  rw [if_pos (Lo.wanted_none rfl _)] at h'
  obtain ⟨e, ⟨h1, h2⟩, hK⟩ := h'
  refine ⟨e, ⟨h1, fun b fp w hw hN hs hR => ?_⟩, hK⟩
  exact upon_mono (fun u w' hg => good_free hg) (h2 b fp w hw hN hs fun i hi => hR i (looks_free hi))
end
section
variable {P : Program} {ops : Array Oper} {w0 : World} {Q : Fa → Prop} {a : Act} {κ : Nat → Option Kd} {o : Oper} {rest : List Oper} {d : Nat}
/-- an operation whose guard says no -/
theorem sSkip {q : Nat × Bool} (hg : o.guard = some q) (hw : Region.wanted o (yielded ops a.tmps) = false) (hd : o.dst = some d) (hk : κ d = none) (hK : wpK P ops w0 Q rest ⟨a.put (some d) undef, κ⟩) : wpK P ops w0 Q (o :: rest) ⟨a, κ⟩ := by
  unfold wpK
  rw [if_neg (by rw [hw]; decide), hd, put_known hk]
  exact hK
theorem sYes {q : Nat × Bool} (hg : o.guard = some q) (hw : Region.wanted o (yielded ops a.tmps) = true) (h : wpK P ops w0 Q (⟨o.dst, o.op, o.type, o.pos, o.after, none⟩ :: rest) ⟨a, κ⟩) : wpK P ops w0 Q (o :: rest) ⟨a, κ⟩ := wpK_yes hg hw h
/-- a float, whatever its bits if it is none -/
def yF (Y : O) : Kd where
  p := fun u S w => ∃ q : Nat, u = .float .f32 q ∧ Hid (Fv .f32 q Y)
  stable := fun u S w w' h hp => hp
  bx := false
/-- an operation on floats, whose result may be none -/
theorem sFop (hg : o.guard = none) (hd : o.dst = some d) (hs : d < a.tmps.size) (ho : avoidK ⟨a, κ⟩ o = true) (op : BinOp) (t t2 : TypeId) (x y : Operand) (hop : o.op = Op.binOp op t x y t2) (hf : isF op = true) (p q : Nat) (X Y : O)
    (hx : a.eval x = .float .f32 p) (hy : a.eval y = .float .f32 q) (hX : Hid (Fv .f32 p X)) (hY : Hid (Fv .f32 q Y)) (hK : wpK P ops w0 Q rest ⟨a.put (some d) undef, upd κ d (some (yF (opO op .f32 X Y)))⟩) : wpK P ops w0 Q (o :: rest) ⟨a, κ⟩ := by
  refine wpK_of_loose (e := ⟨.k (yF (opO op .f32 X Y)), none⟩) hg ⟨fun q hq => (by cases hq), fun b fp w hw hN _ hR => ?_⟩ (by rw [hd, put_some hs]; exact hK)
  rw [eval_avoidK hR ho]
  have e : (execOp a.eval o).run P w = .ok (.value (.float .f32 (ov op .f32 p q w))) (w.drewN (on op .f32 p q)) := by
    have he : eqGuard op t x y (.float .f32 p) (.float .f32 q) = pure () := by
      unfold eqGuard
      cases op <;> simp only [isF] at hf <;> first | (cases hf; done) | rfl
    unfold execOp
    simp only [hop, hx, hy, he, Sem.run_bind, run_fopE hf, Result.andThen_ok, Sem.run_pure]
  rw [e]
  refine ⟨⟨trivial, fun _ => False, ⟨_, rfl, Lib.hid ?_⟩, (fun h => by cases h), fun g hg => hg.elim⟩, since_drewN (World.Since.refl _ _) _⟩
  have := ov_fv hf .f32 p q w
  rw [hX.out.2, hY.out.2] at this
  exact this
/-- a call with one argument known by its properties, and one known value -/
theorem sCall1V (hg : o.guard = none) (hd : o.dst = some d) (hkd : κ d = none) (f : FuncId) (xs : List Operand) (tys : Array TypeId) (hop : o.op = Op.call ⟨.value (.func f), xs.toArray, tys⟩) (henter : ∀ args w2, (callFunc f args).run P w2 = .ok (.enter f args) w2) (s : Nat) (hin : (.tmp s : Operand) ∈ xs) (K0 : Kd) (hks : κ s = some K0) (V : Value → List Value)
    (hV : ∀ b : Act, (xs.map fun x => match x with | .tmp t => (match κ t with | some _ => b.tmps.getD t undef | none => a.tmps.getD t undef) | y => a.eval y) = V (b.tmps.getD s undef)) (z : Value)
    (hc : ∀ u S w, w0.Since w0.heap.size w → w0.heap.size ≤ w.heap.size → K0.p u S w → Calls P f (V u).toArray w fun e2 w2 => e2 = .returned z ∧ w.Since w.heap.size w2)
    (hK : wpK P ops w0 Q rest ⟨a.put (some d) z, κ⟩) : wpK P ops w0 Q (o :: rest) ⟨a, κ⟩ :=
  wpK_callV hg f xs tys hop henter z (fun b fp w hw hN hR => by
    have e := args_eq hR (mem_call hop)
    rw [e]
    have h := (hR s (looks_op (mem_call hop _ hin))).some_ hks
    have := hc _ _ w hw hN h.2.2.1
    rw [← hV b] at this
    exact this) (by rw [hd, put_known hkd]; exact hK)
/-- a cell is loaded that lies before the statement's own memory -/
theorem sLoadF (hg : o.guard = none) (hd : o.dst = some d) (hk : κ d = none) (ho : avoidK ⟨a, κ⟩ o = true) (ty : TypeId) (x : Operand) (hop : o.op = .load ty x) (p : Addr) (hx : a.eval x = .pointer (some p)) (val : Value)
    (hS : ∀ v, w0.Since w0.heap.size v → (loadVar ty p).run P v = .ok val v)
    (hK : wpK P ops w0 Q rest ⟨a.put (some d) val, κ⟩) : wpK P ops w0 Q (o :: rest) ⟨a, κ⟩ :=
  sTold hg hd hk ho _ (fun w hw _ => ⟨w, by
    unfold execOp
    simp only [hop, hx, Instr.loadAt, Instr.sureAddr, Sem.run_bind, Sem.run_pure, Result.andThen_ok, hS w hw], World.Since.refl _ _⟩) hK
end
theorem loadF {w : World} {p : Addr} {x : Nat} (h : w.cell? p = some (.float .f32 x)) : (loadVar 26 p).run Try.prog w = .ok (.float .f32 x) w := by
  simp [loadVar, go_sem, h]
end Lk
end Go.Proofs.Ytfgebggfoboalaa

/- Folds: rows of floats that whole lists are appended to; the model's fold. -/
set_option linter.unusedVariables false
set_option linter.unusedSimpArgs false
namespace Go.Proofs.Ytfgebggfoboalaa
open Fl Go.RowKit
theorem fvl_app (xs ys : List Nat) : fvl xs ++ fvl ys = fvl (xs ++ ys) := by unfold fvl; simp
theorem wd_app (xs ys : List Nat) (j : Nat) : wd (xs ++ ys) j = if j < xs.length then wd xs j else wd ys (j - xs.length) := by
  unfold wd
  split
  · next h => simp [List.getD_eq_getElem?_getD, List.getElem?_append_left h]
  · next h => simp [List.getD_eq_getElem?_getD, List.getElem?_append_right (Nat.le_of_not_lt h)]
set_option maxRecDepth 100000 in
theorem wpList_appN {ops : Array Oper} {rest : List Oper} {o : Oper} {a : Act} {Q : Exit → Act → World → Prop} {w : World} (hgd : o.guard = none) (s x : Operand)
    (ho : o.op = .call { callee := .builtin .append, args := #[s, x], argTypes := #[24, 24] }) (lo : Nat) (v : Value) (k : Nat) (F : Nat → O) (hs : a.eval s = v) (A : Option Addr) (m c : Nat) (xs : List Nat) (B : Nat)
    (hx : a.eval x = .slice A m c) (hnone : A = none → m = 0 ∧ c = 0) (hA : Hid (Fs w B A m xs)) (hF : ∀ j, j < m → F (k + j) = ab .f32 (wd xs j)) (hk : k + m ≤ 1048576) (hlo : lo ≤ w.heap.size) (hR : Rw lo w v k F)
    (h : ∀ v' w', Hid (Rw lo w' v' (k + m) F) → Hid (w.Since lo w') → wpList Try.prog ops Q rest (a.put o.dst v') w') : wpList Try.prog ops Q (o :: rest) a w := by
  obtain ⟨os, h1, h2, h3⟩ := hR
  obtain ⟨i0, hi, hz0, hz1, hz2⟩ := info_parts Try.infoF
  have HA := hA.out
  cases A with
  | none =>
    obtain ⟨rfl, rfl⟩ := hnone rfl
    exact wpList_append_own_none (P := Try.prog) hgd s x 24 ho lo 26 i0 1 Try.underlying24 hi v k (fvl os) (by rw [hs]) h1 hx (h v w (Lib.hid ⟨os, h1, h2, h3⟩) (Lib.hid (World.Since.refl _ _)))
  | some ad =>
  refine wpList_append_own (P := Try.prog) w hgd s x 24 ho lo 26 i0 (.float .f32 0) 1 4 Try.underlying24 hi hz0 hz1 hz2 rfl (by omega) v k (fvl os) hs h1 ad m c (fvl xs) hx ?_ ?_ ?_ ?_ ?_ hlo ?_
  · rw [fvl, List.length_map, HA.1, Nat.mul_one]
  · intro j u hj
    have hlt : j < m := by
      have := (List.getElem?_eq_some_iff.1 hj).1
      rw [fvl, List.length_map, HA.1] at this; exact this
    obtain ⟨g, off, e, _, hc⟩ := HA.2.2 (by omega)
    injection e with e
    subst e
    have := hc j hlt
    rw [show (Addr.mk g off none).add j = ⟨g, off + j, none⟩ by simp [Addr.add], this]
    rw [← hj]
    unfold fvl fv wd
    simp [List.getD_eq_getElem?_getD, List.getElem?_eq_getElem (show j < xs.length by rw [HA.1]; exact hlt)]
  · intro u hu
    obtain ⟨x, _, rfl⟩ := List.mem_map.1 hu
    rfl
  · unfold maxLen; omega
  · omega
  · intro v' w' hown hg _
    have hyl : os.length = k := by simpa [fvl] using h1.1
    refine h v' w' (Lib.hid ⟨os ++ xs, ?_, fun x hx => ?_, fun j hj => ?_⟩) (Lib.hid ⟨hg.os, hg.tape, hg.output, hg.size, fun i hi => ?_⟩)
    · rw [← fvl_app]; exact hown
    · rcases List.mem_append.1 hx with h4 | h4
      · exact h2 x h4
      · exact HA.2.1 x h4
    · rw [wd_app, hyl]
      by_cases e : j < k
      · rw [if_pos e]; exact h3 j e
      · rw [if_neg e, ← hF (j - k) (by omega)]; congr 1; omega
    · refine hg.block i (by omega) fun e => ?_
      have := own_lo h1 i e.symm
      omega
theorem Rw.end_ {lo : Nat} {w : World} {v : Value} {k : Nat} {F : Nat → O} (h : Rw lo w v k F) : ∃ (A : Option Addr) (c : Nat) (xs : List Nat), v = .slice A k c ∧ k ≤ c ∧ (A = none → k = 0 ∧ c = 0) ∧ (∀ a, A = some a → ∃ g, a = ⟨g, 0, none⟩ ∧ lo ≤ g) ∧ Gs 26 w lo A k xs ∧ Are ⟨A, k, xs⟩ F := by
  obtain ⟨os, h1, hs, hf⟩ := h
  rcases h1.2 with ⟨rfl, rfl⟩ | ⟨g, cap, cur, rfl, hg, _, hk, _⟩
  · exact ⟨none, 0, os, rfl, Nat.le_refl _, fun _ => ⟨rfl, rfl⟩, (fun a h => by cases h), Gs.of_own h1 hs, hf⟩
  · exact ⟨some ⟨g, 0, none⟩, cap, os, rfl, hk, (fun h => by cases h), fun a h => by cases h; exact ⟨g, rfl, hg⟩, Gs.of_own h1 hs, hf⟩
theorem Fs.nil_ {w : World} {A : Option Addr} : Fs w 0 A 0 [] := ⟨rfl, (fun x hx => by cases hx), (fun h => by omega)⟩
/-- the last ones of a list -/
theorem Fs.tail {w : World} {B n m : Nat} {g off : Nat} {xs : List Nat} (h : Fs w B (some ⟨g, off, none⟩) (n + m) xs) : Fs w B (some ⟨g, off + n, none⟩) m (xs.drop n) :=
  ⟨by rw [List.length_drop, h.1]; omega, fun x hx => h.2.1 x (List.mem_of_mem_drop hx), fun hm => by
    obtain ⟨g', off', e, hg, hc⟩ := h.2.2 (by omega)
    injection e with e
    injection e with e1 e2 _
    subst e1; subst e2
    refine ⟨g, off + n, rfl, hg, fun k hk => ?_⟩
    have := hc (n + k) (by omega)
    rw [← Nat.add_assoc] at this
    rw [this]
    unfold fv wd
    simp [List.getD_eq_getElem?_getD]⟩
theorem wd_drop (xs : List Nat) (n k : Nat) : wd (xs.drop n) k = wd xs (n + k) := by unfold wd; simp [List.getD_eq_getElem?_getD]
def apO (xs ys : List Nat) (n j : Nat) : O := if j < n then ab .f32 (wd xs j) else ab .f32 (wd ys (j - n))
def fsum (T Z : Nat → O) (p : Nat) : Nat → O
  | 0 => some 0
  | k + 1 => opO .add .f32 (fsum T Z p k) (opO .mul .f32 (T k) (Z (p - k)))
def foldF (T Z : Nat → O) (l t i : Nat) : O := fsum T Z (l + i) t
def offO (Z : Nat → O) (n j : Nat) : O := Z (n + j)
def PEE (n0 : Nat) (f0 : Nat → O) (n1 : Nat) (f1 : Nat → O) (w : World) (e : Ending) (w' : World) : Prop :=
  ∃ (p q : Ls) (c d : Nat), e = .returned (.tuple #[.slice p.A p.n c, .slice q.A q.n d]) ∧ Hid (p.n = n0) ∧ Hid (q.n = n1) ∧ Hid (Ge w.heap.size w' (fe p.A p.n p.xs)) ∧ Hid (Ge w.heap.size w' (fe q.A q.n q.xs)) ∧ Hid (Are p f0) ∧ Hid (Are q f1) ∧ Hid (De (fe p.A p.n p.xs) (fe q.A q.n q.xs)) ∧ Hid (w.Since w.heap.size w')
end Go.Proofs.Ytfgebggfoboalaa

/- Draws: the gate as a list of its own, blocks of it, and when it is open. -/
set_option linter.unusedVariables false
set_option linter.unusedSimpArgs false
namespace Go.Proofs.Ytfgebggfoboalaa
open Fl Go.RowKit
/-- a list of numbers in a block of its own, with the places behind it -/
def PLIBo (n : Nat) (f : Nat → O) (i : Int) (b : Bool) (w : World) (e : Ending) (w' : World) : Prop :=
  ∃ (g c : Nat) (xs : List Nat), e = .returned (.tuple #[.slice (some ⟨g, 0, none⟩) n c, .int .i64 i, .bool b]) ∧ n ≤ c ∧ Gs 26 w' w.heap.size (some ⟨g, 0, none⟩) n xs ∧ Are ⟨some ⟨g, 0, none⟩, n, xs⟩ f ∧ w.Since w.heap.size w'
/-! blocks -/
theorem gateH_cut (X : Nat → O) (T : O) (hold held : Int) (a : Nat) : ∀ k, gateH (fun j => X (a + j)) T hold (gateH X T hold held a) k = gateH X T hold held (a + k)
  | 0 => rfl
  | k + 1 => by
    show (if geO (sizeO (X (a + k))) T then hold else _) = (if geO (sizeO (X (a + k))) T then hold else _)
    rw [gateH_cut X T hold held a k]
    rfl
theorem gateY_cut (X : Nat → O) (T : O) (hold held : Int) (a k : Nat) : gateY (fun j => X (a + j)) T hold (gateH X T hold held a) k = gateY X T hold held (a + k) := by
  unfold gateY
  rw [gateH_cut]
theorem gateH_like {X Y : Nat → O} {T : O} {hold held : Int} {n : Nat} (h : ∀ k, k < n → X k = Y k) : ∀ k, k ≤ n → gateH X T hold held k = gateH Y T hold held k
  | 0, _ => rfl
  | k + 1, hk => by
    unfold gateH
    rw [gateH_like h k (by omega), h k (by omega)]
theorem gateY_like {X Y : Nat → O} {T : O} {hold held : Int} {n : Nat} (h : ∀ k, k < n → X k = Y k) (k : Nat) (hk : k < n) : gateY X T hold held k = gateY Y T hold held k := by
  unfold gateY
  rw [gateH_like h k (by omega), h k hk]
/-! when it is open -/
/-- the last loud place before k -/
def lastO (X : Nat → O) (T : O) : Nat → Int
  | 0 => -1
  | k + 1 => if geO (sizeO (X k)) T then (k : Int) else lastO X T k
theorem lastO_in (X : Nat → O) (T : O) : ∀ k, -1 ≤ lastO X T k ∧ lastO X T k < (k : Int)
  | 0 => by unfold lastO; omega
  | k + 1 => by
    have := lastO_in X T k
    unfold lastO
    split <;> omega
theorem gateH_last (X : Nat → O) (T : O) (hold : Int) (h0 : 0 ≤ hold) : ∀ k, gateH X T hold 0 k = if 0 ≤ lastO X T k ∧ (k : Int) - 1 - lastO X T k ≤ hold then hold - ((k : Int) - 1 - lastO X T k) else 0
  | 0 => by unfold gateH lastO; simp
  | k + 1 => by
    have ih := gateH_last X T hold h0 k
    have hi := lastO_in X T k
    unfold gateH lastO
    by_cases h : geO (sizeO (X k)) T = true
    · rw [if_pos h, if_pos h, if_pos (by omega)]; omega
    · rw [if_neg h, if_neg h, ih]
      by_cases h1 : 0 ≤ lastO X T k ∧ (k : Int) - 1 - lastO X T k ≤ hold
      · rw [if_pos h1]
        by_cases h2 : 0 < hold - ((k : Int) - 1 - lastO X T k)
        · rw [if_pos h2, if_pos (by omega)]; omega
        · rw [if_neg h2, if_neg (by omega)]; omega
      · rw [if_neg h1, if_neg (by omega), if_neg (by omega)]
theorem gateY_open (X : Nat → O) (T : O) (hold : Int) (h0 : 0 ≤ hold) (k : Nat) : gateY X T hold 0 k = if 0 ≤ lastO X T (k + 1) ∧ (k : Int) - lastO X T (k + 1) ≤ hold then X k else some 0 := by
  have hH := gateH_last X T hold h0 k
  have hi := lastO_in X T k
  unfold gateY lastO
  by_cases h : geO (sizeO (X k)) T = true
  · rw [if_pos h, if_pos h, if_pos (by omega)]
  · rw [if_neg h, if_neg h, hH]
    by_cases h1 : 0 ≤ lastO X T k ∧ (k : Int) - lastO X T k ≤ hold
    · rw [if_pos h1, if_pos (by rw [if_pos (by omega)]; omega)]
    · rw [if_neg h1, if_neg]
      split <;> omega
/-! the greater one of a number and its opposite -/
theorem neg32 (b : Nat) (h : b < 4294967296) : Op.negFloat .f32 b = if b < 2147483648 then b + 2147483648 else b - 2147483648 := by
  have e2 := neg_mod .f32 b
  rw [sw32] at e2
  unfold Op.negFloat at e2 ⊢
  have e3 : (b ^^^ (2 ^ (FloatKind.f32.format.exponentBits + FloatKind.f32.format.fractionBits))) / 2147483648 = (b / 2147483648) ^^^ 1 := by
    rw [show (2 : Nat) ^ (FloatKind.f32.format.exponentBits + FloatKind.f32.format.fractionBits) = 2 ^ 31 by decide, show (2147483648 : Nat) = 2 ^ 31 by decide, ← Nat.shiftRight_eq_div_pow, Nat.shiftRight_xor_distrib, Nat.shiftRight_eq_div_pow, Nat.shiftRight_eq_div_pow]
  by_cases hb : b < 2147483648
  · rw [show b / 2147483648 = 0 by omega] at e3
    rw [if_pos hb]
    have : (0 ^^^ 1 : Nat) = 1 := by decide
    omega
  · rw [show b / 2147483648 = 1 by omega] at e3
    rw [if_neg hb]
    have : (1 ^^^ 1 : Nat) = 0 := by decide
    omega
theorem ge_key {x t : Nat} (hx : ab .f32 x = some x) (ht : ab .f32 t = some t) : geO (some x) (some t) = decide (key .f32 t ≤ key .f32 x) := by
  unfold geO gtO eqO ordO
  show ((FloatKind.f32.format.order x t == some .gt) || (FloatKind.f32.format.order x t == some .eq)) = _
  rw [order_key .f32 hx ht, cmp_def]
  rcases Int.lt_trichotomy (key .f32 x) (key .f32 t) with h | h | h
  · rw [if_pos h, decide_eq_false (by omega)]; rfl
  · rw [if_neg (by omega), if_pos h, decide_eq_true (by omega)]; rfl
  · rw [if_neg (by omega), if_neg (by omega), decide_eq_true (by omega)]; rfl
theorem ge_none (X : O) : geO X none = false := by cases X <;> rfl
theorem ge_size (x : Nat) (hx : x < 4294967296) (T : O) (t : Nat) (ht : Fv .f32 t T) : geO (sizeO (ab .f32 x)) T = (geO (ab .f32 x) T || geO (ab .f32 (Op.negFloat .f32 x)) T) := by
  obtain ⟨ht1, ht2⟩ := ht
  subst ht2
  have ht1' : t < 4294967296 := ht1
  have hm := neg_mod .f32 x
  rw [sw32] at hm
  rw [ab32 t]
  split
  · rw [ge_none, ge_none, ge_none]; rfl
  · next h1 =>
    rw [ab32 x, ab32 (Op.negFloat .f32 x), hm]
    by_cases h2 : 2139095040 < x % 2147483648
    · rw [if_pos h2, if_pos h2]; rfl
    · rw [if_neg h2, if_neg h2]
      have a1 : ab .f32 t = some t := by rw [ab32, if_neg h1]
      have a2 : ab .f32 x = some x := by rw [ab32, if_neg h2]
      have a3 : ab .f32 (Op.negFloat .f32 x) = some (Op.negFloat .f32 x) := by rw [ab32, hm, if_neg h2]
      have a4 : ab .f32 (sizeN x) = some (sizeN x) := by unfold sizeN; rw [ab32, Nat.mod_mod, if_neg h2]
      show geO (some (sizeN x)) (some t) = _
      rw [ge_key a4 a1, ge_key a2 a1, ge_key a3 a1]
      have hn := neg32 x hx
      have l3 : Op.negFloat .f32 x < 4294967296 := neg_lt .f32 hx
      have l4 : sizeN x < 4294967296 := sizeN_lt x
      rw [key32 _ l4, key32 _ hx, key32 _ l3, hn]
      unfold sizeN
      rw [← Bool.decide_or]
      congr 1
      by_cases hb : x < 2147483648
      · rw [if_pos (by omega), if_pos hb, if_pos hb, if_neg (by omega)]
        apply propext; constructor
        · intro h; left; omega
        · intro h; omega
      · rw [if_pos (by omega), if_neg hb, if_neg hb, if_pos (by omega)]
        apply propext; constructor
        · intro h; right; omega
        · intro h; omega
end Go.Proofs.Ytfgebggfoboalaa

/- The law of gates. -/
set_option linter.unusedVariables false
set_option linter.unusedSimpArgs false
namespace Go.Proofs.Ytfgebggfoboalaa
open Fl Go.RowKit
theorem Fs.head {w : World} {B n m : Nat} {A : Option Addr} {xs : List Nat} (h : Fs w B A n xs) (hm : m ≤ n) : Fs w B A m (xs.take m) :=
  ⟨by rw [List.length_take, h.1]; omega, fun x hx => h.2.1 x (List.mem_of_mem_take hx), fun h0 => by
    obtain ⟨g, off, e, hg, hc⟩ := h.2.2 (by omega)
    refine ⟨g, off, e, hg, fun k hk => ?_⟩
    rw [hc k (by omega)]
    unfold fv wd
    simp [List.getD_eq_getElem?_getD, List.getElem?_take, hk]⟩
theorem wd_take (xs : List Nat) (m k : Nat) (h : k < m) : wd (xs.take m) k = wd xs k := by unfold wd; simp [List.getD_eq_getElem?_getD, List.getElem?_take, h]
theorem Fs.tail0 {w : World} {B n m : Nat} {g : Nat} {xs : List Nat} (h : Fs w B (some ⟨g, 0, none⟩) n xs) (hm : m ≤ n) : Fs w B (some ⟨g, m, none⟩) (n - m) (xs.drop m) := by
  have h1 := Fs.tail (n := m) (m := n - m) (g := g) (off := 0) (w := w) (B := B) (xs := xs) (by rw [show m + (n - m) = n by omega]; exact h)
  rwa [Nat.zero_add] at h1
theorem Fs.cell0 {w : World} {B n g k : Nat} {xs : List Nat} (h : Fs w B (some ⟨g, 0, none⟩) n xs) (hk : k < n) : w.cell? ⟨g, k, none⟩ = some (.float .f32 (wd xs k)) ∧ g < B := by
  obtain ⟨g', off, e, hg, hc⟩ := h.2.2 (by omega)
  injection e with e
  injection e with e1 e2 _
  subst e1; subst e2
  have := hc k hk
  rw [Nat.zero_add] at this
  exact ⟨this, hg⟩
/-- an operation whose guard says yes, as one without a guard -/
theorem wpList_yes {ops : Array Oper} {rest : List Oper} {o : Oper} {a : Act} {Q : Exit → Act → World → Prop} {w : World} (hw : Region.wanted o (yielded ops a.tmps) = true)
    (h : wpList Try.prog ops Q ({ o with guard := none } :: rest) a w) : wpList Try.prog ops Q (o :: rest) a w := by
  unfold wpList at h ⊢
  rw [if_pos hw]
  rw [if_pos (by rfl)] at h
  exact h
end Go.Proofs.Ytfgebggfoboalaa

/- Walks of laws whose results are lists. -/
set_option linter.unusedVariables false
set_option linter.unusedSimpArgs false
namespace Go.Proofs.Ytfgebggfoboalaa
open Fl Go.RowKit
end Go.Proofs.Ytfgebggfoboalaa

/- Lists of structs, whatever their cells: read, in a block of a law's own, written row by row. -/
set_option linter.unusedVariables false
set_option linter.unusedSimpArgs false
namespace Go.Proofs.Ytfgebggfoboalaa
namespace Fl
section
variable {α : Type} {cells : α → List Value} {s : Nat}
/-- cell j of a list whose elements are e 0, e 1 .., of s cells each -/
def ceL (cells : α → List Value) (s : Nat) (e : Nat → α) (j : Nat) : Value := (cells (e (j / s))).getD (j % s) undef
theorem ceL_at (e : Nat → α) {k f : Nat} (hf : f < s) : ceL cells s e (k * s + f) = (cells (e k)).getD f undef := by
  unfold ceL
  have h1 : (k * s + f) / s = k := by rw [Nat.mul_comm, Nat.mul_add_div (by omega), Nat.div_eq_of_lt hf, Nat.add_zero]
  have h2 : (k * s + f) % s = f := by rw [Nat.mul_comm, Nat.mul_add_mod, Nat.mod_eq_of_lt hf]
  rw [h1, h2]
def upd (e : Nat → α) (k : Nat) (y : α) (i : Nat) : α := if i = k then y else e i
theorem ceL_upd (e : Nat → α) (k : Nat) (y : α) (hs : 0 < s) (j : Nat) : ceL cells s (upd e k y) j = if k * s ≤ j ∧ j < k * s + s then (cells y).getD (j - k * s) undef else ceL cells s e j := by
  unfold ceL upd
  have hd := Nat.div_add_mod j s
  have hm := Nat.mod_lt j hs
  by_cases h : j / s = k
  · rw [if_pos h]
    rw [h, Nat.mul_comm] at hd
    rw [if_pos ⟨by omega, by omega⟩]
    congr 1
    omega
  · rw [if_neg h, if_neg ?_]
    rintro ⟨h1, h2⟩
    exact h ((Nat.div_eq_iff hs).2 ⟨by omega, by omega⟩)
/-- a list of structs that can be read -/
def Rs (cells : α → List Value) (s : Nat) (w : World) (B : Nat) (A : Option Addr) (n : Nat) (e : Nat → α) : Prop :=
  0 < n → ∃ g off, A = some ⟨g, off, none⟩ ∧ g < B ∧ ∀ k, k < n * s → w.cell? ⟨g, off + k, none⟩ = some (ceL cells s e k)
theorem Rs.keep {w w' : World} {B n : Nat} {A : Option Addr} {e : Nat → α} (h : Rs cells s w B A n e) (hk : ∀ g o, g < B → w'.cell? ⟨g, o, none⟩ = w.cell? ⟨g, o, none⟩) : Rs cells s w' B A n e := fun hn => by
  obtain ⟨g, off, ea, hg, hc⟩ := h hn
  exact ⟨g, off, ea, hg, fun k hk' => (hk g _ hg).trans (hc k hk')⟩
theorem Rs.more {w : World} {B B' n : Nat} {A : Option Addr} {e : Nat → α} (h : Rs cells s w B A n e) (hB : B ≤ B') : Rs cells s w B' A n e := fun hn => by
  obtain ⟨g, off, ea, hg, hc⟩ := h hn
  exact ⟨g, off, ea, by omega, hc⟩
theorem Rs.since {w w' : World} {B n : Nat} {A : Option Addr} {e : Nat → α} (h : Rs cells s w B A n e) (hs : w.Since B w') : Rs cells s w' B A n e :=
  h.keep fun g o hg => hs.cell (a := ⟨g, o, none⟩) hg
theorem Rs.now {w w1 : World} {A : Option Addr} {n : Nat} {e : Nat → α} (h : Rs cells s w w.heap.size A n e) (k : w.Since w.heap.size w1) : Rs cells s w1 w1.heap.size A n e := (h.since k).more k.size
theorem row_lt {n k f : Nat} (hk : k < n) (hf : f < s) : k * s + f < n * s := by
  have := Nat.mul_le_mul_right s (show k + 1 ≤ n from hk)
  rw [Nat.succ_mul] at this
  omega
/-- field f of element k -/
theorem Rs.at_ {w : World} {B n : Nat} {A : Option Addr} {e : Nat → α} (h : Rs cells s w B A n e) {k : Nat} (hk : k < n) : ∃ g off, A = some ⟨g, off, none⟩ ∧ g < B ∧ ∀ f, f < s → w.cell? ⟨g, off + k * s + f, none⟩ = some ((cells (e k)).getD f undef) := by
  obtain ⟨g, off, ea, hg, hc⟩ := h (by omega)
  exact ⟨g, off, ea, hg, fun f hf => by rw [Nat.add_assoc, hc _ (row_lt hk hf), ceL_at e hf]⟩
theorem Rs.range {w : World} {B n : Nat} {A : Option Addr} {e : Nat → α} (h : Rs cells s w B A n e) {k : Nat} (hk : k < n) (hl : (cells (e k)).length = s) : ∃ g off, A = some ⟨g, off, none⟩ ∧ g < B ∧ w.rangeAt g (off + k * s) (cells (e k)) := by
  obtain ⟨g, off, ea, hg, hc⟩ := h.at_ hk
  refine ⟨g, off, ea, hg, fun j v hj => ?_⟩
  have hjl := (List.getElem?_eq_some_iff.1 hj).1
  rw [hc j (by omega)]
  simp [List.getD_eq_getElem?_getD, hj]
/-- such a list as an entry -/
def se (cells : α → List Value) (s : Nat) (T : TypeId) (A : Option Addr) (n : Nat) (e : Nat → α) : En := ce T A (n * s) (ceL cells s e) True
theorem Ge.readS {w : World} {lo n : Nat} {T : TypeId} {A : Option Addr} {e : Nat → α} (hs : 0 < s) (h : Ge lo w (se cells s T A n e)) : Rs cells s w w.heap.size A n e := fun hn => by
  obtain ⟨g, off, cs, ea, hg, hl, hb, hc⟩ := h.ce (Nat.mul_pos hn hs)
  refine ⟨g, off, ea, hl, fun k hk => ?_⟩
  simp only [World.cell?, hb]
  simpa using hc k hk
/-- cells of a block of one's own -/
def GF (w : World) (g : Nat) (T : TypeId) (m : Nat) (f : Nat → Value) : Prop := ∃ cs, w.heap[g]? = some (.cells cs T (0, 0)) ∧ ∀ j, j < m → cs[j]? = some (f j)
theorem GF.cell {w : World} {g m : Nat} {T : TypeId} {f : Nat → Value} (h : GF w g T m f) {j : Nat} (hj : j < m) : w.cell? ⟨g, j, none⟩ = some (f j) := by
  obtain ⟨cs, hb, hc⟩ := h
  simp only [World.cell?, hb]
  simpa using hc j hj
theorem GF.free {w : World} {g m : Nat} {T : TypeId} {f : Nat → Value} (h : GF w g T m f) (j : Nat) : w.frozen? ⟨g, j, none⟩ = false := by
  obtain ⟨cs, hb, hc⟩ := h
  simp [World.frozen?, hb]
theorem GF.set {w : World} {g m : Nat} {T : TypeId} {f : Nat → Value} (h : GF w g T m f) (k : Nat) (v : Value) : GF (w.setCell ⟨g, k, none⟩ v) g T m (fun j => if j = k then v else f j) := by
  obtain ⟨cs, hb, hc⟩ := h
  refine ⟨cs.setIfInBounds k v, by simp [World.setCell, Array.getElem?_modify, hb], fun j hj => ?_⟩
  have hsz : j < cs.size := (Array.getElem?_eq_some_iff.1 (hc j hj)).1
  rw [Array.getElem?_setIfInBounds]
  show _ = some (if j = k then v else f j)
  by_cases e : k = j
  · subst e; rw [if_pos rfl, if_pos rfl, if_pos hsz]
  · rw [if_neg e, if_neg (fun h => e h.symm)]; exact hc j hj
theorem GF.congr {w : World} {g m : Nat} {T : TypeId} {f f' : Nat → Value} (h : GF w g T m f) (e : ∀ j, j < m → f j = f' j) : GF w g T m f' := by
  obtain ⟨cs, hb, hc⟩ := h
  exact ⟨cs, hb, fun j hj => (hc j hj).trans (congrArg some (e j hj))⟩
theorem GF.of {w w' : World} {g m : Nat} {T : TypeId} {f : Nat → Value} (h : GF w g T m f) (e : w'.heap[g]? = w.heap[g]?) : GF w' g T m f := by
  obtain ⟨cs, hb, hc⟩ := h
  exact ⟨cs, e.trans hb, hc⟩
theorem GF.lt {w : World} {g m : Nat} {T : TypeId} {f : Nat → Value} (h : GF w g T m f) : g < w.heap.size := by
  obtain ⟨cs, hb, hc⟩ := h
  exact (Array.getElem?_eq_some_iff.1 hb).1
theorem GF.entry {w : World} {g n lo : Nat} {T : TypeId} {e : Nat → α} (h : GF w g T (n * s) (ceL cells s e)) (hl : lo ≤ g) : Ge lo w (se cells s T (some ⟨g, 0, none⟩) n e) := by
  obtain ⟨cs, hb, hc⟩ := h
  exact ce_ge trivial fun hn => ⟨g, 0, cs, rfl, hl, hb, fun k hk => by rw [Nat.zero_add]; exact hc k hk⟩
theorem GF.made (w : World) (T : TypeId) (zs : Array Value) (z : α) (n : Nat) (hz : (cells z).toArray = zs) (hs : zs.size = s) (hp : 0 < s) : GF (w.alloc (.cells (madeCells zs (n * s)) T)) w.heap.size T (n * s) (ceL cells s fun _ => z) := by
  refine ⟨_, Go.Deep.blk_alloc_new _ _, fun j hj => ?_⟩
  unfold madeCells ceL
  subst hz
  have hm : j % s < (cells z).length := by rw [← List.size_toArray, hs]; exact Nat.mod_lt _ hp
  simp [hj]
  simp only [List.size_toArray] at hs
  rw [hs]
  simp [List.getD_eq_getElem?_getD, List.getElem?_eq_getElem hm]
end
end Fl
end Go.Proofs.Ytfgebggfoboalaa

/- Arrays of eight floats, of the program. -/
set_option linter.unusedVariables false
set_option linter.unusedSimpArgs false
namespace Go.Proofs.Ytfgebggfoboalaa
open Fl Go.RowKit
/-- an array of eight words -/
def ag8 (f : Nat → Nat) : Array Value := #[.float .f32 (f 0), .float .f32 (f 1), .float .f32 (f 2), .float .f32 (f 3), .float .f32 (f 4), .float .f32 (f 5), .float .f32 (f 6), .float .f32 (f 7)]
def wv (f : Nat → Nat) (j : Nat) : Value := .float .f32 (f j)
theorem ag8_at (f : Nat → Nat) (j : Nat) (h : j < 8) : (ag8 f)[j]? = some (wv f j) := by
  obtain rfl | rfl | rfl | rfl | rfl | rfl | rfl | rfl : j = 0 ∨ j = 1 ∨ j = 2 ∨ j = 3 ∨ j = 4 ∨ j = 5 ∨ j = 6 ∨ j = 7 := by omega
  all_goals rfl
theorem Fl.GF.since {w w' : World} {g m : Nat} {T : TypeId} {f : Nat → Value} (h : GF w g T m f) (s : w.Since w.heap.size w') : GF w' g T m f := h.of (s.block _ h.lt)
def step8 (k : Nat) (r a : Nat → Nat) (j : Nat) : Value := .float .f32 (if j < k then r j else a j)
theorem ag8_len (f : Nat → Nat) : (ag8 f).toList.length = 8 := rfl
theorem ag8_eq (f g : Nat → Nat) (h : ∀ j, j < 8 → f j = g j) : ag8 f = ag8 g := by
  unfold ag8
  rw [h 0 (by decide), h 1 (by decide), h 2 (by decide), h 3 (by decide), h 4 (by decide), h 5 (by decide), h 6 (by decide), h 7 (by decide)]
end Go.Proofs.Ytfgebggfoboalaa

/- Mixed and scaled samples: of the program. -/
set_option linter.unusedVariables false
set_option linter.unusedSimpArgs false
namespace Go.Proofs.Ytfgebggfoboalaa
open Fl Go.RowKit
theorem eights_put {cs : Array Value} {n p m : Nat} {r s : Nat → Nat} (h : ∀ j, j < n → cs[j]? = some (partial_ p r j)) (hm : p + m ≤ n) (hm2 : m ≤ 8) (hm3 : m = 8 ∨ p + m = n) : ∀ j, j < n → (splice cs.toList p ((List.range m).map fun j => Value.float .f32 (s j))).toArray[j]? = some (partial_ (p + 8) (fun j => if p ≤ j then s (j - p) else r j) j) := by
  intro j hj
  have hsz : n ≤ cs.size := by
    rcases Nat.eq_zero_or_pos n with h0 | h0
    · omega
    · have := (Array.getElem?_eq_some_iff.1 (h (n - 1) (by omega))).1; omega
  unfold splice
  rw [List.getElem?_toArray]
  have hl : (cs.toList.take p).length = p := by rw [List.length_take, Array.length_toList]; omega
  by_cases h1 : j < p
  · rw [List.getElem?_append_left (by rw [hl]; exact h1), List.getElem?_take_of_lt h1, Array.getElem?_toList, h j hj]
    unfold partial_
    dsimp only
    rw [if_pos h1, if_pos (by omega), if_neg (by omega)]
  · by_cases h2 : j < p + m
    · rw [List.getElem?_append_right (by rw [hl]; omega), hl, List.getElem?_append_left (by simp; omega)]
      unfold partial_
      dsimp only
      rw [if_pos (by omega), if_pos (by omega)]
      simp [show j - p < m by omega]
    · rw [← List.append_assoc, List.getElem?_append_right (by simp [hl]; omega)]
      have hl2 : (cs.toList.take p ++ (List.range m).map fun j => Value.float .f32 (s j)).length = p + m := by simp [hl]
      rw [hl2]
      rcases hm3 with rfl | h3
      · rw [List.getElem?_drop]
        have e : p + ((List.range 8).map fun j => Value.float .f32 (s j)).length + (j - (p + 8)) = j := by simp; omega
        rw [e, Array.getElem?_toList, h j hj]
        unfold partial_
        rw [if_neg (by omega), if_neg (by omega)]
      · omega
end Go.Proofs.Ytfgebggfoboalaa

/- Two rows of floats that grow side by side. -/
set_option linter.unusedVariables false
set_option linter.unusedSimpArgs false
namespace Go.Proofs.Ytfgebggfoboalaa
open Fl Go.RowKit
/-- two rows lie in two blocks -/
def Apart (v u : Value) : Prop := ∀ b, v.ownBlock = some b → u.ownBlock = some b → False
theorem Apart.symm {v u : Value} (h : Apart v u) : Apart u v := fun b h1 h2 => h b h2 h1
/-- where a row lies that something was appended to -/
theorem append_where {P : Program} (w : World) (base : Nat) (t ty e : TypeId) (i : TypeInfo) (z : Value) (ht : P.underlying t = some (.slice e)) (hi : P.info? e = some i) (hz : i.zero = some z)
    (v : Value) (n : Nat) (xs : List Value) (hown : w.ownsRow base e i.size v n xs) (hsz : 0 < i.size)
    (a : Addr) (m c : Nat) (news : List Value) (hl : news.length = m * i.size) (hnews : ∀ j u, news[j]? = some u → w.cell? (a.add j) = some u) (h1 : ∀ u ∈ news, u.oneCell' = true) (hm : 0 < m)
    (h63 : n + m ≤ maxLen) (hbytes : (n + m) * i.bytes ≤ 140737488355328) :
    ∃ v' w', (Builtin.append_ #[t, t] ty #[v, .slice (some a) m c]).run P w = .ok v' w' ∧ (v'.ownBlock = v.ownBlock ∨ v'.ownBlock = some w.heap.size) := by
  have hsmall : n + m ≤ 9223372036854775807 := by simp only [maxLen] at h63; omega
  rcases hown.2 with ⟨rfl, rfl⟩ | ⟨g, cap, cur, rfl, hbg, hg, hnc, hcm, hcs, htake⟩
  · have hr := run_append_nil (P := P) w t ty e i z ht hi hz a m c news hl hnews (by omega) (by omega) (by have hb := hbytes; simp only [Nat.zero_add] at hb; omega)
    exact ⟨_, _, hr, .inr rfl⟩
  · by_cases hroom : n + m ≤ cap
    · have hfit : n * i.size + news.length ≤ cur.size := by rw [hl, hcs, ← Nat.add_mul]; exact Nat.mul_le_mul_right _ hroom
      have hr := run_append_room (P := P) w t ty e i ht hi g n cap cur hg a m c news hl hnews h1 hroom hfit
      exact ⟨_, _, hr, .inl rfl⟩
    · have holds : ∀ j u, xs[j]? = some u → w.cell? ((⟨g, 0, none⟩ : Addr).add j) = some u := hown.cells (g := g) rfl
      have hr := run_append_grow (P := P) w t ty e i z ht hi hz ⟨g, 0, none⟩ n cap xs hown.1 holds a m c news hl hnews (by omega) (by omega) (growslice_fits (by omega) hbytes)
      exact ⟨_, _, hr, .inr rfl⟩
theorem Rw.kept {lo : Nat} {w w' : World} {u v : Value} {k : Nat} {G : Nat → O} (h : Rw lo w u k G) (hg : w.grownBy w' v.ownBlock) (ha : Apart v u) : Rw lo w' u k G := by
  obtain ⟨os, h1, h2, h3⟩ := h
  refine ⟨os, h1.kept hg ?_, h2, h3⟩
  cases e : u.ownBlock with
  | none => exact .inl rfl
  | some b => exact .inr fun e2 => ha b e2.symm e
theorem Rw.blk {lo : Nat} {w : World} {u : Value} {k : Nat} {G : Nat → O} (h : Rw lo w u k G) : ∀ b, u.ownBlock = some b → b < w.heap.size := by
  obtain ⟨os, h1, h2, h3⟩ := h
  exact fun b hb => (h1.lt b hb).2
theorem wpList_app2 {ops : Array Oper} {rest : List Oper} {o : Oper} {a : Act} {Q : Exit → Act → World → Prop} {w : World} (hgd : o.guard = none) (s x : Operand)
    (ho : o.op = .call { callee := .builtin .append, args := #[s, x], argTypes := #[24, 24] }) (lo : Nat) (v : Value) (k : Nat) (F : Nat → O) (hs : a.eval s = v) (b r : Nat)
    (hx : a.eval x = .slice (some ⟨b, 0, none⟩) 1 1) (hc : w.cell? ⟨b, 0, none⟩ = some (.float .f32 r)) (hk : k < 1048576) (hlo : lo ≤ w.heap.size) (hr : Hid (Fv .f32 r (F k))) (hR : Rw lo w v k F)
    (h : ∀ v' w', Hid (Rw lo w' v' (k + 1) F) → Hid (w.Since lo w') → Hid (∀ u k' G, Rw lo w u k' G → Apart v u → Rw lo w' u k' G ∧ Apart v' u) → wpList Try.prog ops Q rest (a.put o.dst v') w') : wpList Try.prog ops Q (o :: rest) a w := by
  obtain ⟨os, h1, h2, h3⟩ := hR
  obtain ⟨i0, hi, hz0, hz1, hz2⟩ := info_parts Try.infoF
  have hnews : ∀ (j : Nat) (u : Value), [Value.float .f32 r][j]? = some u → w.cell? ((⟨b, 0, none⟩ : Addr).add j) = some u := by
    intro j u hj
    rcases j with _ | j
    · simp at hj; subst hj; simpa [Addr.add] using hc
    · simp at hj
  have hone : ∀ u ∈ [Value.float .f32 r], u.oneCell' = true := by intro u hu; simp at hu; subst hu; rfl
  have h63 : k + 1 ≤ maxLen := by unfold maxLen; omega
  have hby : (k + 1) * i0.bytes ≤ 140737488355328 := by rw [hz2]; omega
  refine wpList_plain hgd fun K hK => ?_
  obtain ⟨v', w', hrun, hown, hgr, _⟩ := run_append_own (P := Try.prog) w lo 24 o.type 26 i0 (.float .f32 0) i0.size i0.bytes Try.underlying24 hi hz0 rfl rfl (by rw [hz1]; rfl) (by rw [hz1]; omega) v k (fvl os) (by rw [hz1]; exact h1) ⟨b, 0, none⟩ 1 1 [.float .f32 r] (by rw [hz1]; rfl) hnews hone h63 hby hlo
  obtain ⟨v2, w2, hrun2, hwh⟩ := append_where (P := Try.prog) w lo 24 o.type 26 i0 (.float .f32 0) Try.underlying24 hi hz0 v k (fvl os) (by rw [hz1]; exact h1) (by rw [hz1]; omega) ⟨b, 0, none⟩ 1 1 [.float .f32 r] (by rw [hz1]; rfl) hnews hone (by omega) h63 hby
  rw [hrun] at hrun2
  injection hrun2 with e1 e2
  subst e1
  rw [hz1] at hown
  unfold Oper.wp execOp
  simp only [ho, resolve, invoke, builtin, Sem.run_bind, Sem.run_pure, Result.andThen_ok, List.map_toArray, List.map_cons, List.map_nil, hs, hx, hrun]
  refine hK _ _ (h v' w' (Lib.hid ⟨os ++ [r], ?_, h2.snoc hr.out.1, fun j hj => ?_⟩) (Lib.hid ⟨hgr.os, hgr.tape, hgr.output, hgr.size, fun i hi => ?_⟩) (Lib.hid fun u k' G hu hap => ⟨hu.kept hgr hap, fun b h4 h5 => ?_⟩))
  · rw [← fvl_snoc]; exact hown
  · have hyl : os.length = k := by simpa [fvl] using h1.1
    rw [wd_snoc hyl]
    by_cases e : j < k
    · rw [if_pos e]; exact h3 j e
    · obtain rfl : j = k := by omega
      rw [if_neg e, if_pos rfl]; exact hr.out.2
  · refine hgr.block i (by omega) fun e => ?_
    have := own_lo h1 i e.symm
    omega
  · rcases hwh with e | e
    · exact hap b (e ▸ h4) h5
    · have := hu.blk b h5
      rw [e] at h4
      injection h4 with h4
      omega
theorem De.of_apart {p q : Ls} {c d : Nat} (h : Apart (.slice p.A p.n c) (.slice q.A q.n d)) : De (fe p.A p.n p.xs) (fe q.A q.n q.xs) := by
  rintro g ⟨_, o1, e1⟩ ⟨_, o2, e2⟩
  exact h g (by rw [e1]; rfl) (by rw [e2]; rfl)
end Go.Proofs.Ytfgebggfoboalaa

/- Mixed and scaled samples, two channels: of the model. -/
set_option linter.unusedVariables false
set_option linter.unusedSimpArgs false
namespace Go.Proofs.Ytfgebggfoboalaa
open Fl Go.RowKit
theorem fv2 : Hid (Fv .f32 1073741824 (some 1073741824)) := fvc (by decide) (by decide)
def sumF (X Y : Nat → O) (k : Nat) : O := ad (X k) (Y k)
def difF (X Y : Nat → O) (k : Nat) : O := su (X k) (Y k)
def midF (X Y : Nat → O) (k : Nat) : O := qu (ad (X k) (Y k)) (some 1073741824)
def sidF (X Y : Nat → O) (k : Nat) : O := qu (su (X k) (Y k)) (some 1073741824)
end Go.Proofs.Ytfgebggfoboalaa

/- Two channels: of the program. -/
set_option linter.unusedVariables false
set_option linter.unusedSimpArgs false
namespace Go.Proofs.Ytfgebggfoboalaa
open Fl Go.RowKit
end Go.Proofs.Ytfgebggfoboalaa

/- The laws of MixSamples, ScaleSamples, LeftAndRight, MiddleAndSide. -/
set_option linter.unusedVariables false
set_option linter.unusedSimpArgs false
namespace Go.Proofs.Ytfgebggfoboalaa
open Fl Go.RowKit
end Go.Proofs.Ytfgebggfoboalaa

/- The laws on bits, walked: each returns true, whatever it is called with. -/
set_option linter.unusedVariables false
set_option linter.unusedSimpArgs false
namespace Go.Proofs.Ytfgebggfoboalaa
open Fl

end Go.Proofs.Ytfgebggfoboalaa

/- The law of flushed numbers. -/
set_option linter.unusedVariables false
set_option linter.unusedSimpArgs false
namespace Go.Proofs.Ytfgebggfoboalaa
open Fl Go.RowKit
/-! words that are flushed -/
theorem subB_flushN (b : Nat) : subB (flushN b) = false := by
  unfold subB flushN
  split
  · have h : zeroB (b / 2147483648 * 2147483648) = true := by unfold zeroB; simp
    rw [h]; rfl
  · next h => rw [decide_eq_false h]; simp
theorem same_flush (b : Nat) (hb : b < 4294967296) : decide (bitsO (ab .f32 b) = bitsO (ab .f32 (flushN b))) = !subB b := by
  unfold subB zeroB flushN
  by_cases h : b % 2147483648 < 8388608
  · rw [if_pos h, decide_eq_true h]
    have e1 : ab .f32 b = some b := by rw [ab32, if_neg (by omega)]
    have e2 : ab .f32 (b / 2147483648 * 2147483648) = some (b / 2147483648 * 2147483648) := by rw [ab32, if_neg (by omega)]
    rw [e1, e2]
    show decide (b = b / 2147483648 * 2147483648) = _
    by_cases h0 : b % 2147483648 = 0
    · rw [decide_eq_true h0, decide_eq_true (by omega)]; rfl
    · rw [decide_eq_false h0, decide_eq_false (by omega)]; rfl
  · rw [if_neg h, decide_eq_false h, decide_eq_true rfl]; simp
theorem bits_lt (b : Nat) (hb : b < 4294967296) : bitsO (ab .f32 b) < 4294967296 := by
  rw [ab32]
  split
  · show 2143289344 < _; decide
  · exact hb
theorem bits_sign (b : Nat) (hb : b < 4294967296) (h : ab .f32 b = some b) : bitsO (ab .f32 b) / 2147483648 = bitsO (ab .f32 (flushN b)) / 2147483648 := by
  have h2 : ab .f32 (flushN b) = some (flushN b) := by
    rw [ab32] at h ⊢
    unfold flushN
    split at h
    · cases h
    · split
      · rw [if_neg (by omega)]
      · first | rfl | rw [if_neg (by omega)]
  rw [h, h2]
  show b / 2147483648 = flushN b / 2147483648
  unfold flushN
  split <;> omega
theorem sub_small {s : Nat} (h1 : 0 < s) (h2 : s < 8388608) : subB s = true ∧ flushN s = 0 := by
  unfold subB zeroB flushN
  rw [decide_eq_false (show ¬ s % 2147483648 = 0 by omega), decide_eq_true (show s % 2147483648 < 8388608 by omega), if_pos (by omega)]
  exact ⟨rfl, by omega⟩
theorem small_num {s : Nat} (h2 : s < 8388608) : ab .f32 s = some s := by rw [ab32, if_neg (by omega)]
theorem small_ord {s : Nat} (h1 : 0 < s) (h2 : s < 8388608) : ¬ FloatKind.f32.format.order s 0 = some .eq := by
  rw [order_key .f32 (small_num h2) ab32_zero, key32 s (by omega), key32 0 (by decide), if_pos (show s < 2147483648 by omega), if_pos (show 0 < 2147483648 by decide), cmp_def]
  split
  · omega
  · split
    · omega
    · intro h; cases h
/-! the peak -/
theorem pos_num {p : Nat} (h : p ≤ 2139095040) : ab .f32 p = some p := by rw [ab32, if_neg (by omega)]
theorem pos_gt {a b : Nat} (ha : a ≤ 2139095040) (hb : b ≤ 2139095040) : (FloatKind.f32.format.order a b == some .gt) = decide (b < a) := by
  rw [order_key .f32 (pos_num ha) (pos_num hb), key32 a (by omega), key32 b (by omega), if_pos (by omega), if_pos (by omega), cmp_def]
  by_cases h : a < b
  · rw [if_pos (by omega), decide_eq_false (by omega)]; rfl
  · rw [if_neg (by omega)]
    by_cases h2 : a = b
    · rw [if_pos (by omega), decide_eq_false (by omega)]; rfl
    · rw [if_neg (by omega), decide_eq_true (by omega)]; rfl
theorem nan_gt {a b : Nat} (ha : ¬ a % 2147483648 ≤ 2139095040) : (FloatKind.f32.format.order a b == some .gt) = false := by
  rw [ord_none (by rw [ab32, if_pos (by omega)])]; rfl
theorem peak_spec (xs : List Nat) (hs : Small xs) : ∀ k, peakN xs k ≤ 2139095040 ∧ (∀ j, j < k → sizeN (wd xs j) ≤ 2139095040 → sizeN (wd xs j) ≤ peakN xs k) ∧ (peakN xs k = 0 ∨ ∃ j, j < k ∧ sizeN (wd xs j) = peakN xs k)
  | 0 => ⟨by unfold peakN; decide, (fun j hj => absurd hj (Nat.not_lt_zero _)), .inl rfl⟩
  | k + 1 => by
    obtain ⟨h1, h2, h3⟩ := peak_spec xs hs k
    have e : peakN xs (k + 1) = if FloatKind.f32.format.order (sizeN (wd xs k)) (peakN xs k) == some .gt then sizeN (wd xs k) else peakN xs k := rfl
    have hlt := sizeN_lt (wd xs k)
    by_cases hn : sizeN (wd xs k) ≤ 2139095040
    · rw [pos_gt hn h1] at e
      by_cases hg : peakN xs k < sizeN (wd xs k)
      · rw [decide_eq_true hg, if_pos rfl] at e
        rw [e]
        refine ⟨hn, fun j hj hj2 => ?_, .inr ⟨k, by omega, rfl⟩⟩
        by_cases e2 : j < k
        · have := h2 j e2 hj2; omega
        · obtain rfl : j = k := by omega
          exact Nat.le_refl _
      · rw [decide_eq_false hg, if_neg (by decide)] at e
        rw [e]
        refine ⟨h1, fun j hj hj2 => ?_, ?_⟩
        · by_cases e2 : j < k
          · exact h2 j e2 hj2
          · obtain rfl : j = k := by omega
            omega
        · rcases h3 with h3 | ⟨j, hj, h4⟩
          · exact .inl h3
          · exact .inr ⟨j, by omega, h4⟩
    · have hm : ¬ sizeN (wd xs k) % 2147483648 ≤ 2139095040 := by unfold sizeN at hn ⊢; omega
      rw [nan_gt hm, if_neg (by decide)] at e
      rw [e]
      refine ⟨h1, fun j hj hj2 => ?_, ?_⟩
      · by_cases e2 : j < k
        · exact h2 j e2 hj2
        · obtain rfl : j = k := by omega
          exact absurd hj2 hn
      · rcases h3 with h3 | ⟨j, hj, h4⟩
        · exact .inl h3
        · exact .inr ⟨j, by omega, h4⟩
theorem gt_word {x p : Nat} (hx : x < 4294967296) (hp : p ≤ 2139095040) (h : sizeN x ≤ 2139095040 → sizeN x ≤ p) : (FloatKind.f32.format.order x p == some .gt) = false := by
  unfold sizeN at h
  by_cases hn : x % 2147483648 ≤ 2139095040
  · have e : ab .f32 x = some x := by rw [ab32, if_neg (by omega)]
    have := h hn
    rw [order_key .f32 e (pos_num hp), key32 x hx, key32 p (by omega), if_pos (show p < 2147483648 by omega)]
    by_cases hb : x < 2147483648
    · rw [if_pos hb, cmp_def]
      split
      · rfl
      · split
        · rfl
        · exfalso; omega
    · rw [if_neg hb, cmp_def]
      split
      · rfl
      · split
        · rfl
        · exfalso; omega
  · exact nan_gt hn
theorem neg_size (x : Nat) (hx : x < 4294967296) : sizeN (Op.negFloat .f32 x) = sizeN x := by
  unfold sizeN
  rw [neg32 x hx]
  split <;> omega
theorem eq_word {x p : Nat} (hx : x < 4294967296) (hp : p ≤ 2139095040) (h : sizeN x = p) : (FloatKind.f32.format.order x p == some .eq || FloatKind.f32.format.order (Op.negFloat .f32 x) p == some .eq) = true := by
  unfold sizeN at h
  have hn := neg32 x hx
  by_cases hb : x < 2147483648
  · obtain rfl : x = p := by omega
    rw [order_self, pos_num hp]; rfl
  · rw [if_neg hb] at hn
    rw [hn, show x - 2147483648 = p by omega, order_self, pos_num hp]; simp
/-- whether the peak is found -/
def foundB (xs : List Nat) (p : Nat) : Nat → Bool
  | 0 => FloatKind.f32.format.order p 0 == some .eq
  | k + 1 => foundB xs p k || FloatKind.f32.format.order (wd xs k) p == some .eq || FloatKind.f32.format.order (Op.negFloat .f32 (wd xs k)) p == some .eq
theorem found_up (xs : List Nat) (p : Nat) (j : Nat) (h : foundB xs p (j + 1) = true) : ∀ k, j < k → foundB xs p k = true
  | 0, hk => absurd hk (Nat.not_lt_zero _)
  | k + 1, hk => by
    by_cases e : j = k
    · subst e; exact h
    · show (foundB xs p k || _ || _) = true
      rw [found_up xs p j h k (by omega)]; rfl
theorem found0 (xs : List Nat) (p : Nat) (h : foundB xs p 0 = true) : ∀ k, foundB xs p k = true
  | 0 => h
  | k + 1 => by
    show (foundB xs p k || _ || _) = true
    rw [found0 xs p h k]; rfl
theorem found_all (xs : List Nat) (hs : Small xs) (n : Nat) : foundB xs (peakN xs n) n = true := by
  obtain ⟨h1, _, h3⟩ := peak_spec xs hs n
  rcases h3 with h3 | ⟨j, hj, h4⟩
  · rw [h3]
    refine found0 xs 0 ?_ n
    show (FloatKind.f32.format.order 0 0 == some .eq) = true
    rw [order_self, ab32_zero]; rfl
  · refine found_up xs _ j ?_ n hj
    have := eq_word (hs.at_ j) h1 h4
    show (foundB xs _ j || _ || _) = true
    rw [Bool.or_assoc, this, Bool.or_true]
theorem ge_zero {p : Nat} (hp : p ≤ 2139095040) : (FloatKind.f32.format.order p 0 == some .gt || FloatKind.f32.format.order p 0 == some .eq) = true := by
  rw [order_key .f32 (pos_num hp) ab32_zero, key32 p (by omega), key32 0 (by decide), if_pos (by omega), if_pos (by decide), cmp_def, if_neg (by omega)]
  split <;> rfl
end Go.Proofs.Ytfgebggfoboalaa

/- Floats that stand for whole multiples of 2^-q. -/
set_option linter.unusedVariables false
set_option linter.unusedSimpArgs false
namespace Go.Proofs.Ytfgebggfoboalaa
namespace Fl
open Ieee
def pl : FloatKind → Nat
  | .f32 => 149
  | .f64 => 1074
theorem pl_eq (k : FloatKind) : (pl k : Int) = -k.format.leastPlace := by cases k <;> decide
/-- 2^-q in units of the least place -/
def un (k : FloatKind) (q : Nat) : Nat := 2 ^ (pl k - q)
theorem un_pos (k : FloatKind) (q : Nat) : 0 < un k q := Nat.two_pow_pos _
theorem un_up (k : FloatKind) {q j : Nat} (h : q + j ≤ pl k) : un k q = 2 ^ j * un k (q + j) := by
  unfold un
  rw [← Nat.pow_add]
  congr 1; omega
theorem un_mul (k : FloatKind) {q p : Nat} (h : q + p ≤ pl k) : un k q * un k p = un k (q + p) * 2 ^ pl k := by
  unfold un
  rw [← Nat.pow_add, ← Nat.pow_add]
  congr 1; omega
/-- the greatest whole number of digits that the format has, and one more -/
def bd (k : FloatKind) : Nat := 2 ^ (k.format.fractionBits + 1)
theorem bd32 : bd .f32 = 16777216 := by decide
theorem bd64 : bd .f64 = 9007199254740992 := by decide
theorem rep_un (k : FloatKind) {m : Nat} (q : Nat) (hm : m < bd k) : ∃ r, r < k.format.infRung ∧ zv k r = m * un k q := by
  refine rep k hm ?_
  have h1 : (pl k - q + 2) * k.format.binade ≤ (pl k + 2) * k.format.binade := Nat.mul_le_mul_right _ (by omega)
  refine Nat.le_trans h1 ?_
  cases k <;> decide
/-- X stands for z times 2^-q -/
def EO (k : FloatKind) (q : Nat) (z : Int) (X : Option Nat) : Prop := ∃ b, X = some b ∧ Fin k b ∧ sv k b = z * (un k q : Int)
theorem fin_ab {k : FloatKind} {b : Nat} (h : Fin k b) : ab k b = some b := by
  unfold ab
  unfold Fin rung at h
  rw [if_neg (by omega)]
section
variable {k : FloatKind} {q p : Nat} {a b : Int} {X Y : Option Nat}
theorem EO.add (hx : EO k q a X) (hy : EO k q b Y) (hb : (a + b).natAbs < bd k) : EO k q (a + b) (opO .add k X Y) := by
  obtain ⟨x, rfl, fx, vx⟩ := hx
  obtain ⟨y, rfl, fy, vy⟩ := hy
  obtain ⟨r, hr, hz⟩ := rep_un k q hb
  obtain ⟨z, h1, h2, h3⟩ := add_exact k fx fy hr (by rw [vx, vy, ← Int.add_mul, Int.natAbs_mul, Int.natAbs_natCast, hz])
  exact ⟨z, h1, h2, by rw [h3, vx, vy, Int.add_mul]⟩
theorem EO.sub (hx : EO k q a X) (hy : EO k q b Y) (hb : (a - b).natAbs < bd k) : EO k q (a - b) (opO .sub k X Y) := by
  obtain ⟨x, rfl, fx, vx⟩ := hx
  obtain ⟨y, rfl, fy, vy⟩ := hy
  obtain ⟨r, hr, hz⟩ := rep_un k q hb
  obtain ⟨z, h1, h2, h3⟩ := sub_exact k fx fy hr (by rw [vx, vy, ← Int.sub_mul, Int.natAbs_mul, Int.natAbs_natCast, hz])
  exact ⟨z, h1, h2, by rw [h3, vx, vy, Int.sub_mul]⟩
theorem EO.mul (hx : EO k q a X) (hy : EO k p b Y) (hb : (a * b).natAbs < bd k) (hq : q + p ≤ pl k) : EO k (q + p) (a * b) (opO .mul k X Y) := by
  obtain ⟨x, rfl, fx, vx⟩ := hx
  obtain ⟨y, rfl, fy, vy⟩ := hy
  obtain ⟨r, hr, hz⟩ := rep_un k (q + p) hb
  have hu := un_mul k hq
  have e1 : sv k x * sv k y = a * b * ((un k (q + p) : Nat) : Int) * ((2 ^ pl k : Nat) : Int) := by
    rw [vx, vy]
    have : a * (un k q : Int) * (b * (un k p : Int)) = a * b * ((un k q * un k p : Nat) : Int) := by rw [Int.natCast_mul]; ac_rfl
    rw [this, hu, Int.natCast_mul]; ac_rfl
  obtain ⟨z, h1, h2, h3⟩ := mul_exact k fx fy hr (pl k) (pl_eq k) (by rw [e1, Int.natAbs_mul, Int.natAbs_mul, Int.natAbs_natCast, Int.natAbs_natCast, hz])
  refine ⟨z, h1, h2, ?_⟩
  rw [e1] at h3
  exact Int.eq_of_mul_eq_mul_right (by have := Nat.two_pow_pos (pl k); omega) h3
theorem EO.up (hx : EO k q a X) (j : Nat) (h : q + j ≤ pl k) : EO k (q + j) (a * ((2 ^ j : Nat) : Int)) X := by
  obtain ⟨x, rfl, fx, vx⟩ := hx
  refine ⟨x, rfl, fx, ?_⟩
  rw [vx, un_up k h, Int.natCast_mul, Int.mul_assoc]
theorem EO.cast (hx : EO k q a X) (h : a = b) : EO k q b X := by subst h; exact hx
theorem cmp_sv {x y : Nat} : compare (key k x) (key k y) = compare (sv k x) (sv k y) := by
  unfold key sv
  have z1 := zv_inj k (r := rung k x) (s := 0)
  have z2 := zv_inj k (r := rung k y) (s := 0)
  rw [zv_zero] at z1 z2
  exact cmp_sg _ _ (zv_lt k).symm (zv_lt k).symm z1.symm z2.symm
theorem EO.ord (hx : EO k q a X) (hy : EO k q b Y) : ordO k X Y = some (compare a b) := by
  obtain ⟨x, rfl, fx, vx⟩ := hx
  obtain ⟨y, rfl, fy, vy⟩ := hy
  show k.format.order x y = _
  rw [order_key k (fin_ab fx) (fin_ab fy), cmp_sv, vx, vy, cmp_scale _ _ _ (un_pos k q)]
/-- a whole number as a float -/
theorem EO.int (n : Int) (h : n.natAbs < bd k) : EO k 0 n (some (floatOfInt k n)) := by
  obtain ⟨r, hr, hz⟩ := rep_un k 0 h
  have hN : rung k (k.format.nearest (decide (n < 0)) n.natAbs 0) = r := nearest_exact k _ (b := k.format.leastPlace) hr (lp_neg k) (Int.le_refl _) (by
    rw [hz]
    have e1 : (0 - k.format.leastPlace).toNat = pl k - 0 := by have := pl_eq k; omega
    have e2 : (k.format.leastPlace - k.format.leastPlace).toNat = 0 := by omega
    rw [e1, e2, Nat.pow_zero, Nat.mul_one]; rfl)
  refine ⟨_, rfl, ?_, ?_⟩
  · show rung k (k.format.nearest _ _ _) < _
    rw [hN]; exact hr
  · show sv k (k.format.nearest _ _ _) = _
    rw [sv_nearest k _ hN, hz]
    by_cases h1 : n < 0
    · rw [decide_eq_true h1]
      simp only [sg, if_true]
      rw [Int.natCast_mul, ← Int.neg_mul]
      congr 1; omega
    · rw [decide_eq_false h1]
      simp only [sg, Bool.false_eq_true, if_false]
      rw [Int.natCast_mul]
      congr 1; omega
end
/-- by reckoning -/
def exB (k : FloatKind) (q : Nat) (z : Int) : Option Nat → Bool
  | some b => decide (rung k b < k.format.infRung) && decide (sv k b = z * (un k q : Int))
  | none => false
theorem exB_EO {k : FloatKind} {q : Nat} {z : Int} {X : Option Nat} (h : exB k q z X = true) : EO k q z X := by
  cases X with
  | none => cases h
  | some b =>
    simp only [exB, Bool.and_eq_true, decide_eq_true_eq] at h
    exact ⟨b, rfl, h.1, h.2⟩
theorem inf_wide (D : Nat) (hD : D = 925) : zv .f32 FloatKind.f32.format.infRung * 2 ^ D < zv .f64 FloatKind.f64.format.infRung := by subst hD; decide +kernel
theorem EO.wide' {q : Nat} {z : Int} {X : Option Nat} (h : EO .f32 q z X) (hq : q ≤ 149) (D : Nat) (hD : D = 925) : EO .f64 q z (wide X) := by
  obtain ⟨x, rfl, fx, vx⟩ := h
  obtain ⟨h1, h2⟩ := wide_zv fx D hD
  have hu : un .f64 q = un .f32 q * 2 ^ D := by
    unfold un
    rw [← Nat.pow_add]
    congr 1
    show 1074 - q = 149 - q + D
    omega
  have hw : Fl.wide (some x) = some (FloatKind.f64.encode (FloatKind.f32.decode x)) := rfl
  refine ⟨_, hw, ?_, ?_⟩
  · rcases Nat.lt_or_ge (rung .f64 (FloatKind.f64.encode (FloatKind.f32.decode x))) FloatKind.f64.format.infRung with h3 | h3
    · exact h3
    · exfalso
      have h4 : zv .f64 FloatKind.f64.format.infRung ≤ zv .f64 (rung .f64 (FloatKind.f64.encode (FloatKind.f32.decode x))) := (zv_le .f64).2 h3
      rw [h2] at h4
      have h5 : zv .f32 (rung .f32 x) < zv .f32 FloatKind.f32.format.infRung := (zv_lt .f32).2 fx
      have h6 := inf_wide D hD
      have h7 := Nat.mul_lt_mul_of_pos_right h5 (Nat.two_pow_pos D)
      exact Nat.lt_irrefl _ (Nat.lt_of_le_of_lt h4 (Nat.lt_trans h7 h6))
  · have hs : sv .f64 (FloatKind.f64.encode (FloatKind.f32.decode x)) = sv .f32 x * ((2 ^ D : Nat) : Int) := by
      unfold sv
      rw [h1, h2, sg_mul]
    rw [hs, vx, hu, Int.natCast_mul, Int.mul_assoc]
theorem EO.wide {q : Nat} {z : Int} {X : Option Nat} (h : EO .f32 q z X) (hq : q ≤ 149) : EO .f64 q z (wide X) := h.wide' hq 925 rfl
end Fl
open Fl
theorem EO.eq_ {q : Nat} {a b : Int} {X Y : O} (hx : EO .f32 q a X) (hy : EO .f32 q b Y) : eqO X Y = decide (a = b) := by
  unfold eqO
  rw [hx.ord hy, cmp_def]
  by_cases h : a < b
  · rw [if_pos h, decide_eq_false (by omega)]; rfl
  · rw [if_neg h]
    by_cases h2 : a = b
    · rw [if_pos h2, decide_eq_true h2]; rfl
    · rw [if_neg h2, decide_eq_false h2]; rfl
end Go.Proofs.Ytfgebggfoboalaa

/- A level against the peak: the law's comparison. -/
set_option linter.unusedVariables false
set_option linter.unusedSimpArgs false
namespace Go.Proofs.Ytfgebggfoboalaa
open Fl Go.RowKit Ieee
def cMore : Nat := 4607182869159980145
def w64 (b : Nat) : Nat := FloatKind.f64.encode (FloatKind.f32.decode b)
set_option maxRecDepth 100000 in
theorem peak_tab : ∀ i : Nat, i < 258 → (match floatBits .mul .f64 cMore (w64 (plW i % 2147483648)) with
    | some z => decide (sgn .f64 z = false) && decide (rung .f64 z < FloatKind.f64.format.infRung) && (decide (plW i % 2147483648 = 0) || decide (rung .f64 (w64 (plW i % 2147483648 + 1)) ≤ rung .f64 z))
    | none => false) = true := by decide +kernel
theorem conv_k (b : Nat) (hab : ab .f32 b = some b) (W : World) : (convert 26 33 (.float .f32 b)).run Try.prog W = .ok (.float .f64 (w64 b)) W := by
  have h := run_wide (P := Try.prog) 26 33 b (by kernel_rfl) (by kernel_rfl) W
  unfold Fl.wv Fl.wn at h
  rw [hab] at h
  exact h
theorem wide_finD {b : Nat} (h : Fl.Fin .f32 b) (D : Nat) (hD : D = 925) : Fl.Fin .f64 (w64 b) ∧ sgn .f64 (w64 b) = sgn .f32 b ∧ zv .f64 (rung .f64 (w64 b)) = zv .f32 (rung .f32 b) * 2 ^ D := by
  obtain ⟨h1, h2⟩ := wide_zv h D hD
  refine ⟨?_, h1, h2⟩
  have h3 : zv .f64 (rung .f64 (w64 b)) < zv .f64 FloatKind.f64.format.infRung := by
    show zv .f64 (rung .f64 (FloatKind.f64.encode (FloatKind.f32.decode b))) < _
    rw [h2]
    have h4 := (zv_lt .f32).2 h
    have h5 := inf_wide D hD
    exact Nat.lt_trans (Nat.mul_lt_mul_of_pos_right h4 (Nat.two_pow_pos _)) h5
  exact (zv_lt .f64).1 h3
theorem not_gt64 {x z : Nat} (fx : Fl.Fin .f64 x) (fz : Fl.Fin .f64 z) (sx : sgn .f64 x = false) (sz : sgn .f64 z = false) (h : rung .f64 x ≤ rung .f64 z) : (FloatKind.f64.format.order x z == some .gt) = false := by
  rw [order_key .f64 (fin_abK fx) (fin_abK fz)]
  unfold key
  rw [sx, sz]
  show (some (compare (rung .f64 x : Int) (rung .f64 z : Int)) == some .gt) = false
  rw [cmp_def]
  by_cases h1 : (rung .f64 x : Int) < (rung .f64 z : Int)
  · rw [if_pos h1]; rfl
  · rw [if_neg h1, if_pos (by omega)]; rfl
/-- a level that is at most the next number behind the peak is not greater than 1.0001 peaks -/
theorem lev_more {i q : Nat} (hi : i < 258) (hq : Nn (rung .f32 (plW i % 2147483648) + 1) q) (h0 : rung .f32 q = 0 ∨ 8388608 ≤ rung .f32 q) :
    ∃ z, floatBits .mul .f64 cMore (w64 (plW i % 2147483648)) = some z ∧ (FloatKind.f64.format.order (w64 q) z == some .gt) = false := by
  have ht := peak_tab i hi
  obtain ⟨p1, p2⟩ := pl_small i hi
  generalize plW i % 2147483648 = P at *
  have hP : rung .f32 P = P := by rw [rung32]; omega
  rw [hP] at hq
  cases hz : floatBits .mul .f64 cMore (w64 P) with
  | none => rw [hz] at ht; exact absurd ht Bool.false_ne_true
  | some z =>
    rw [hz] at ht
    simp only [Bool.and_eq_true, Bool.or_eq_true, decide_eq_true_eq] at ht
    obtain ⟨⟨sz, fz⟩, hr⟩ := ht
    obtain ⟨D, hD⟩ : ∃ D : Nat, D = 925 := ⟨_, rfl⟩
    obtain ⟨fq, sq, vq⟩ := wide_finD hq.fin D hD
    refine ⟨z, rfl, not_gt64 fq fz (sq.trans hq.sgn) sz ?_⟩
    have hle : rung .f32 q ≤ P + 1 := hq.le
    rcases hr with h1 | h1
    · have hq0 : rung .f32 q = 0 := by omega
      rw [hq0, zv_zero, Nat.zero_mul] at vq
      have := (zv_inj .f64 (r := rung .f64 (w64 q)) (s := 0)).1 (by rw [zv_zero]; exact vq)
      omega
    · refine Nat.le_trans ?_ h1
      have f1 : Fl.Fin .f32 (P + 1) := by show rung .f32 _ < _; rw [rung32, ir_f32]; omega
      obtain ⟨_, _, v1⟩ := wide_finD f1 D hD
      have hr1 : rung .f32 (P + 1) = P + 1 := by rw [rung32]; omega
      refine (zv_le .f64).1 ?_
      rw [vq, v1, hr1]
      exact Nat.mul_le_mul_right _ ((zv_le .f32).2 hle)
/-- levels of plain numbers, against their peak -/
theorem peak_plain (xs : List Nat) (hs : Small xs) {n : Nat} (hp : ∀ j, j < n → Pl (ab .f32 (wd xs j))) :
    ∃ i, i < 258 ∧ peakN xs n = plW i % 2147483648 ∧ ∀ j, j < n → ∃ s, sizeO (ab .f32 (wd xs j)) = some s ∧ Nn (rung .f32 (plW i % 2147483648) + 1) s ∧ rung .f32 s + 1 ≤ rung .f32 (plW i % 2147483648) + 1 := by
  obtain ⟨h1, h2, h3⟩ := peak_spec xs hs n
  have hw : ∀ j, j < n → ∃ i, i < 258 ∧ wd xs j = plW i := fun j hj => by
    obtain ⟨i, hi, e⟩ := hp j hj
    exact ⟨i, hi, (ab_some e).symm⟩
  have hi : ∃ i, i < 258 ∧ peakN xs n = plW i % 2147483648 := by
    rcases h3 with h | ⟨j, hj, h⟩
    · exact ⟨64, by decide, by rw [h]; decide⟩
    · obtain ⟨i, hi, e⟩ := hw j hj
      exact ⟨i, hi, by rw [← h, e]; rfl⟩
  obtain ⟨i, hi, hP⟩ := hi
  refine ⟨i, hi, hP, fun j hj => ?_⟩
  obtain ⟨s, e1, e2, e3⟩ := pl_size (hp j hj)
  obtain ⟨i', hi', e⟩ := hw j hj
  obtain ⟨p1, p2⟩ := pl_small i' hi'
  have hsz := h2 j hj (by rw [e]; unfold sizeN; omega)
  rw [hP] at hsz
  have es : s = plW i' % 2147483648 := by
    obtain ⟨i2, hi2, e4⟩ := hp j hj
    have : wd xs j = plW i2 := (ab_some e4).symm
    rw [e4] at e1
    injection e1 with e1
    rw [← e1, ← e, this]; rfl
  have hr : rung .f32 s = s := by rw [rung32, es]; omega
  have hrP : rung .f32 (plW i % 2147483648) = plW i % 2147483648 := by rw [rung32]; omega
  rw [e] at hsz
  have hle : rung .f32 s ≤ rung .f32 (plW i % 2147483648) := by rw [hr, hrP, es]; exact hsz
  exact ⟨s, e1, ⟨e2.lt, e2.fin, e2.sgn, by omega⟩, by omega⟩
end Go.Proofs.Ytfgebggfoboalaa

/- Dots of plain numbers grow with their sizes. -/
set_option linter.unusedVariables false
set_option linter.unusedSimpArgs false
namespace Go.Proofs.Ytfgebggfoboalaa
open Fl Go.RowKit Ieee
/-- k squares of one number, added one after another -/
def itS (x : O) : Nat → O
  | 0 => some 0
  | k + 1 => ad (itS x k) (mu x x)
def okS (x : O) (n : Nat) : Bool := (List.range (n + 1)).all fun k => match itS x k with | some w => decide (rung .f32 w < 2139095040) && decide (sgn .f32 w = false) | none => false
set_option maxRecDepth 100000 in
theorem okS_tab : (List.range 258).all (fun i => okS (some (plW i % 2147483648)) 14) = true := by decide +kernel
theorem itS_ok {i k : Nat} (hi : i < 258) (hk : k ≤ 14) : ∃ w, itS (some (plW i % 2147483648)) k = some w ∧ Fl.Fin .f32 w ∧ sgn .f32 w = false := by
  have h1 := List.all_eq_true.1 okS_tab i (List.mem_range.2 hi)
  have h2 := List.all_eq_true.1 h1 k (List.mem_range.2 (by omega))
  cases h : itS (some (plW i % 2147483648)) k with
  | none => rw [h] at h2; exact absurd h2 Bool.false_ne_true
  | some w =>
    rw [h] at h2
    simp only [Bool.and_eq_true, decide_eq_true_eq] at h2
    exact ⟨w, rfl, by show rung .f32 w < _; rw [ir_f32]; exact h2.1, h2.2⟩
theorem sq_fin {x : Nat} (hx : rung .f32 x ≤ 1092000000) : ∃ r, floatBits .mul .f32 x x = some r ∧ Fl.Fin .f32 r ∧ sgn .f32 r = false := by
  have fx : Fl.Fin .f32 x := by show rung .f32 x < _; rw [ir_f32]; omega
  have fc : Fl.Fin .f32 1092000000 := by show rung .f32 1092000000 < _; decide
  obtain ⟨r, t, hr, ht, hle⟩ := mul_size .f32 fx fx fc fc (Nat.le_trans hx (by decide)) (Nat.le_trans hx (by decide))
  obtain ⟨r', hr', sr, _⟩ := mul_val .f32 fx fx 149 (by decide)
  rw [hr] at hr'; injection hr' with hr'; subst hr'
  have et : floatBits .mul .f32 1092000000 1092000000 = some t := ht
  have ft : rung .f32 t < 2139095040 := by
    have : ∀ q, floatBits .mul .f32 1092000000 1092000000 = some q → rung .f32 q < 2139095040 := by decide +kernel
    exact this t et
  exact ⟨r, hr, by show rung .f32 r < _; rw [ir_f32]; omega, by rw [sr]; cases sgn .f32 x <;> rfl⟩
theorem sum_nn {x y : Nat} (fx : Fl.Fin .f32 x) (fy : Fl.Fin .f32 y) (sx : sgn .f32 x = false) (sy : sgn .f32 y = false) : ∃ z, floatBits .add .f32 x y = some z ∧ sgn .f32 z = false := by
  obtain ⟨z, hz, R, h0⟩ := add_val .f32 fx fy
  have v1 : sv .f32 x = (zv .f32 (rung .f32 x) : Int) := by unfold sv sg; rw [sx]; rfl
  have v2 : sv .f32 y = (zv .f32 (rung .f32 y) : Int) := by unfold sv sg; rw [sy]; rfl
  rw [v1, v2] at R h0
  refine ⟨z, hz, ?_⟩
  by_cases hv : (zv .f32 (rung .f32 x) : Int) + (zv .f32 (rung .f32 y) : Int) = 0
  · rw [h0 hv, sx]; rfl
  · rw [R.sgn hv]; exact decide_eq_false (by omega)
/-- a dot of a list with itself lies between the sums of the least and of the greatest size's squares -/
theorem dot_between (xs : List Nat) {n i l : Nat} (hn : n ≤ 14) (hi : i < 258) (hl : l < 258)
    (h : ∀ j, j < n → ∃ x, ab .f32 (wd xs j) = some x ∧ rung .f32 x ≤ rung .f32 (plW i % 2147483648) ∧ rung .f32 (plW l % 2147483648) ≤ rung .f32 x) :
    ∀ k, k ≤ n → ∃ d u w, dotO xs xs k = some d ∧ itS (some (plW l % 2147483648)) k = some u ∧ itS (some (plW i % 2147483648)) k = some w ∧ rung .f32 u ≤ rung .f32 d ∧ rung .f32 d ≤ rung .f32 w ∧ sgn .f32 d = false
  | 0, _ => ⟨0, 0, 0, rfl, rfl, rfl, Nat.le_refl _, Nat.le_refl _, by decide⟩
  | k + 1, hk => by
    obtain ⟨d, u, w, e1, e2, e3, h1, h2, h3⟩ := dot_between xs hn hi hl h k (by omega)
    obtain ⟨x, ex, hx1, hx2⟩ := h k (by omega)
    have bP : rung .f32 (plW i % 2147483648) ≤ 1092000000 := by have := (pl_small i hi).2; rw [rung32]; omega
    have bL : rung .f32 (plW l % 2147483648) ≤ 1092000000 := by have := (pl_small l hl).2; rw [rung32]; omega
    have fin : ∀ {b : Nat}, rung .f32 b ≤ 1092000000 → Fl.Fin .f32 b := fun hb => by show rung .f32 _ < _; rw [ir_f32]; omega
    obtain ⟨w0, ew0, fw0, sw0⟩ := itS_ok hi (show k ≤ 14 by omega)
    obtain ⟨u0, eu0, fu0, su0⟩ := itS_ok hl (show k ≤ 14 by omega)
    rw [e3] at ew0; injection ew0 with ew0; subst ew0
    rw [e2] at eu0; injection eu0 with eu0; subst eu0
    have fd : Fl.Fin .f32 d := Nat.lt_of_le_of_lt h2 fw0
    obtain ⟨r, hr, fr, sr⟩ := sq_fin (Nat.le_trans hx1 bP)
    obtain ⟨p, hp, fp, sp⟩ := sq_fin bP
    obtain ⟨q, hq, fq, sq⟩ := sq_fin bL
    have fx := fin (Nat.le_trans hx1 bP)
    obtain ⟨r1, p1, a1, a2, lrp⟩ := mul_size .f32 fx fx (fin bP) (fin bP) hx1 hx1
    rw [hr] at a1; injection a1 with a1; subst a1
    rw [hp] at a2; injection a2 with a2; subst a2
    obtain ⟨q1, r2, a3, a4, lqr⟩ := mul_size .f32 (fin bL) (fin bL) fx fx hx2 hx2
    rw [hq] at a3; injection a3 with a3; subst a3
    rw [hr] at a4; injection a4 with a4; subst a4
    obtain ⟨z, w1, b1, b2, lz⟩ := add_size .f32 fd fr fw0 fp sw0 sp h2 lrp
    obtain ⟨u1, z2, b3, b4, lu⟩ := add_size .f32 fu0 fq fd fr h3 sr h1 lqr
    rw [b1] at b4; injection b4 with b4; subst b4
    obtain ⟨z3, b5, sz⟩ := sum_nn fd fr h3 sr
    rw [b1] at b5; injection b5 with b5; subst b5
    refine ⟨z, u1, w1, ?_, ?_, ?_, lu, lz, sz⟩
    · show opO .add .f32 (dotO xs xs k) (opO .mul .f32 (ab .f32 (wd xs k)) (ab .f32 (wd xs k))) = _
      rw [e1, ex, show opO .mul .f32 (some x) (some x) = some r from hr]; exact b1
    · show opO .add .f32 (itS _ k) (opO .mul .f32 (some (plW l % 2147483648)) (some (plW l % 2147483648))) = _
      rw [e2, show opO .mul .f32 (some (plW l % 2147483648)) (some (plW l % 2147483648)) = some q from hq]; exact b3
    · show opO .add .f32 (itS _ k) (opO .mul .f32 (some (plW i % 2147483648)) (some (plW i % 2147483648))) = _
      rw [e3, show opO .mul .f32 (some (plW i % 2147483648)) (some (plW i % 2147483648)) = some p from hp]; exact b2
end Go.Proofs.Ytfgebggfoboalaa

/- Bounds of square roots: a root is at most each number whose square is not less, and at least each one whose square is not greater. -/
set_option linter.unusedVariables false
set_option linter.unusedSimpArgs false
namespace Go.Proofs.Ytfgebggfoboalaa
open Fl Go.RowKit Ieee
theorem rootFrom_gt (n : Nat) : ∀ todo root, root * root ≤ n → n < (root + 2 ^ todo) * (root + 2 ^ todo) →
    Datum.rootFrom n todo root * Datum.rootFrom n todo root ≤ n ∧ n < (Datum.rootFrom n todo root + 1) * (Datum.rootFrom n todo root + 1)
  | 0, root, h, h2 => ⟨h, h2⟩
  | todo + 1, root, h, h2 => by
    unfold Datum.rootFrom
    dsimp only
    rw [Nat.shiftLeft_eq, Nat.one_mul]
    have e : root + 2 ^ (todo + 1) = root + 2 ^ todo + 2 ^ todo := by rw [Nat.pow_succ]; omega
    rw [e] at h2
    split
    · rename_i h1; exact rootFrom_gt n todo _ h1 h2
    · rename_i h1; exact rootFrom_gt n todo _ h (Nat.lt_of_not_le h1)
theorem whole_root (n : Nat) : ∃ w, Datum.rootFrom n (n.log2 / 2 + 1) 0 = w ∧ w * w ≤ n ∧ n < (w + 1) * (w + 1) := by
  have h := rootFrom_gt n (n.log2 / 2 + 1) 0 (by omega) (by
    rw [Nat.zero_add, ← Nat.pow_add]
    have h1 := Nat.lt_log2_self (n := n)
    exact Nat.lt_of_lt_of_le h1 (Nat.pow_le_pow_right (by omega) (by omega)))
  exact ⟨_, rfl, h.1, h.2⟩
theorem sq_le {a b : Nat} (h : a * a ≤ b * b) : a ≤ b := by
  rcases Nat.lt_or_ge b a with h1 | h1
  · exact absurd (Nat.mul_lt_mul_of_lt_of_le h1 (Nat.le_of_lt h1) (by omega)) (by omega)
  · exact h1
theorem sq_lt2 {a b : Nat} (h : a * a < b * b) : a < b := by
  rcases Nat.lt_or_ge a b with h1 | h1
  · exact h1
  · exact absurd (Nat.mul_le_mul h1 h1) (by omega)
theorem root_cut {n w c g a : Nat} (h1 : w * w ≤ n) (h2 : n < (w + 1) * (w + 1)) (hn : 2 ^ 108 ≤ n) (hc : c < 2 ^ 24) :
    (n * (2 ^ (a + 1) * 2 ^ (a + 1)) ≤ (c * 2 ^ g) * (c * 2 ^ g) → (2 * w + (w * w != n).toNat) * 2 ^ a ≤ c * 2 ^ g) ∧
    ((c * 2 ^ g) * (c * 2 ^ g) ≤ n * (2 ^ (a + 1) * 2 ^ (a + 1)) → c * 2 ^ g ≤ (2 * w + (w * w != n).toNat) * 2 ^ a) := by
  have hw : 2 ^ 54 ≤ w := by
    have : 2 ^ 54 * 2 ^ 54 < (w + 1) * (w + 1) := Nat.lt_of_le_of_lt hn h2
    exact Nat.lt_succ_iff.1 (sq_lt2 this)
  have e2 : (2 : Nat) ^ (a + 1) = 2 * 2 ^ a := by rw [Nat.pow_succ, Nat.mul_comm]
  by_cases hg : a + 1 ≤ g
  · obtain ⟨d, hd⟩ : ∃ d, c * 2 ^ g = d * 2 ^ (a + 1) := ⟨c * 2 ^ (g - (a + 1)), by rw [Nat.mul_assoc, ← Nat.pow_add]; congr 2; omega⟩
    rw [hd]
    have hp : 0 < 2 ^ (a + 1) * 2 ^ (a + 1) := Nat.mul_pos (Nat.two_pow_pos _) (Nat.two_pow_pos _)
    have er : d * 2 ^ (a + 1) * (d * 2 ^ (a + 1)) = d * d * (2 ^ (a + 1) * 2 ^ (a + 1)) := by ac_rfl
    have er2 : d * 2 ^ (a + 1) = 2 * d * 2 ^ a := by rw [e2]; ac_rfl
    rw [er]
    refine ⟨fun h => ?_, fun h => ?_⟩
    · have h3 : n ≤ d * d := Nat.le_of_mul_le_mul_right h hp
      rw [er2]
      refine Nat.mul_le_mul_right _ ?_
      cases hb : (w * w != n)
      · have h4 : w ≤ d := sq_le (Nat.le_trans h1 h3)
        show 2 * w + 0 ≤ 2 * d
        omega
      · have h5 : w * w ≠ n := by simpa using hb
        have h4 : w < d := sq_lt2 (Nat.lt_of_lt_of_le (by omega) h3)
        show 2 * w + 1 ≤ 2 * d
        omega
    · have h3 : d * d ≤ n := Nat.le_of_mul_le_mul_right h hp
      have h4 : d < w + 1 := sq_lt2 (Nat.lt_of_le_of_lt h3 h2)
      rw [er2]
      exact Nat.mul_le_mul_right _ (by omega)
  · have h3 : c * 2 ^ g < 2 ^ 24 * 2 ^ a := by
      refine Nat.lt_of_lt_of_le (Nat.mul_lt_mul_of_pos_right hc (Nat.two_pow_pos g)) ?_
      exact Nat.mul_le_mul_left _ (Nat.pow_le_pow_right (by omega) (by omega))
    have h4 : 2 ^ 24 * 2 ^ a ≤ w * 2 ^ a := Nat.mul_le_mul_right _ (Nat.le_trans (by decide) hw)
    have h5 : w * 2 ^ a ≤ (2 * w + (w * w != n).toNat) * 2 ^ a := Nat.mul_le_mul_right _ (by omega)
    refine ⟨fun h => ?_, fun _ => by omega⟩
    exfalso
    have h6 : c * 2 ^ g < w * 2 ^ (a + 1) := by rw [e2]; have : w * (2 * 2 ^ a) = 2 * (w * 2 ^ a) := by ac_rfl
                                                omega
    have h7 : (c * 2 ^ g) * (c * 2 ^ g) < (w * 2 ^ (a + 1)) * (w * 2 ^ (a + 1)) := Nat.mul_lt_mul_of_lt_of_le h6 (Nat.le_of_lt h6) (by omega)
    have h8 : (w * 2 ^ (a + 1)) * (w * 2 ^ (a + 1)) = w * w * (2 ^ (a + 1) * 2 ^ (a + 1)) := by ac_rfl
    have h9 : w * w * (2 ^ (a + 1) * 2 ^ (a + 1)) ≤ n * (2 ^ (a + 1) * 2 ^ (a + 1)) := Nat.mul_le_mul_right _ h1
    omega
/-- what a number gives when it is narrowed, against a word -/
theorem narrow_cut {q : Nat} (fq : Fl.Fin .f64 q) (D : Nat) (hD : D = 925) : ∃ r, convO .f64 .f32 (some q) = some r ∧ r < 4294967296 ∧ sgn .f32 r = sgn .f64 q ∧
    (∀ t, t < FloatKind.f32.format.infRung → zv .f64 (rung .f64 q) ≤ zv .f32 t * 2 ^ D → rung .f32 r ≤ t) ∧
    (∀ t, t < FloatKind.f32.format.infRung → zv .f32 t * 2 ^ D ≤ zv .f64 (rung .f64 q) → t ≤ rung .f32 r) := by
  obtain ⟨m, e, hr, hz⟩ := read_fin .f64 fq
  have hd : FloatKind.f64.decode q = .number (sgn .f64 q) m (FloatKind.f64.format.leastPlace + e) := hr
  have lp : FloatKind.f64.format.leastPlace = -1074 := by decide
  have lp2 : FloatKind.f32.format.leastPlace = -149 := by decide
  have hconv : convO .f64 .f32 (some q) = some (FloatKind.f32.format.nearest (sgn .f64 q) m (FloatKind.f64.format.leastPlace + (e : Int))) := by
    show some (FloatKind.f32.encode (FloatKind.f64.decode q)) = _
    rw [hd]; rfl
  have e1 : (FloatKind.f64.format.leastPlace + (e : Int) - (-1074)).toNat = e := by omega
  have e2 : (FloatKind.f32.format.leastPlace - (-1074)).toNat = D := by omega
  refine ⟨_, hconv, FloatKind.f32.format.write_lt (.number (sgn .f64 q) m (FloatKind.f64.format.leastPlace + (e : Int))), sgn_nearest _ _ _ _, fun t ht h => ?_, fun t ht h => ?_⟩
  · refine nearest_le .f32 _ (b := -1074) ht (by omega) (by omega) ?_
    rw [e1, e2, ← hz]; exact h
  · refine nearest_ge .f32 _ (b := -1074) ht (by omega) (by omega) ?_
    rw [e1, e2, ← hz]; exact h
theorem max_sq (E : Nat) (hE : E = 149) : 2 ^ E ≤ zv .f32 2139095039 := by subst hE; decide +kernel
theorem zero_conv : convO .f64 .f32 (some (FloatKind.f64.format.word false 0)) = some 0 := by decide +kernel
theorem root_zero (d : Nat) (i : Int) : Datum.root d (.number false 0 i) = some (.number false 0 i) := by
  unfold Datum.root
  exact if_pos rfl
theorem near_zero (s : Bool) (i : Int) : FloatKind.f64.format.nearest s 0 i = FloatKind.f64.format.word s 0 := rfl
theorem sqrt_zero {q : Nat} {i : Int} (hr : FloatKind.f64.format.read q = .number false 0 i) : FloatKind.f64.format.sqrt q = some (FloatKind.f64.format.word false 0) := by
  unfold Format.sqrt
  rw [hr, root_zero]
  exact congrArg some (near_zero false i)
theorem root_formD {d m more w a : Nat} {i : Int} (hm : m ≠ 0)
    (hmo : 2 * d - m.log2 + ((i - ((2 * d - m.log2 : Nat) : Int)) % 2).toNat = more)
    (hw : Datum.rootFrom (m <<< more) ((m <<< more).log2 / 2 + 1) 0 = w) (ha : (i - (more : Int)) / 2 - 1 = -1074 + (a : Int)) :
    Datum.root d (.number false m i) = some (.number false (2 * w + (w * w != m <<< more).toNat) (-1074 + (a : Int))) := by
  unfold Datum.root
  dsimp only
  rw [if_neg hm, if_neg (by decide), hmo, hw, ha]
theorem sqrt_form {q m more w a : Nat} {i : Int} (hr : FloatKind.f64.format.read q = .number false m i) (hm : m ≠ 0)
    (hmo : 2 * (FloatKind.f64.format.fractionBits + 2) - m.log2 + ((i - ((2 * (FloatKind.f64.format.fractionBits + 2) - m.log2 : Nat) : Int)) % 2).toNat = more)
    (hw : Datum.rootFrom (m <<< more) ((m <<< more).log2 / 2 + 1) 0 = w) (ha : (i - (more : Int)) / 2 - 1 = -1074 + (a : Int)) :
    FloatKind.f64.format.sqrt q = some (FloatKind.f64.format.nearest false (2 * w + (w * w != m <<< more).toNat) (-1074 + (a : Int))) := by
  unfold Format.sqrt
  rw [hr, root_formD hm hmo hw ha]
  rfl
theorem root_bounds {x : Nat} (fx : Fl.Fin .f32 x) (sx : sgn .f32 x = false) (E : Nat) (hE : E = 149) : ∃ r, rootO (some x) = some r ∧ r < 4294967296 ∧ sgn .f32 r = false ∧ 
    (∀ t, t < FloatKind.f32.format.infRung → zv .f32 (rung .f32 x) * 2 ^ E ≤ zv .f32 t * zv .f32 t → rung .f32 r ≤ t) ∧
    (∀ t, t < FloatKind.f32.format.infRung → zv .f32 t * zv .f32 t ≤ zv .f32 (rung .f32 x) * 2 ^ E → t ≤ rung .f32 r) := by
  obtain ⟨D, hD⟩ : ∃ D : Nat, D = 925 := ⟨_, rfl⟩
  obtain ⟨hs, hv⟩ := wide_zv fx D hD
  obtain ⟨q, hq⟩ : ∃ q, q = FloatKind.f64.encode (FloatKind.f32.decode x) := ⟨_, rfl⟩
  rw [← hq] at hs hv
  have fq : Fl.Fin .f64 q := by
    have h3 : zv .f64 (rung .f64 q) < zv .f64 FloatKind.f64.format.infRung := by
      rw [hv]
      exact Nat.lt_trans (Nat.mul_lt_mul_of_pos_right ((zv_lt .f32).2 fx) (Nat.two_pow_pos _)) (inf_wide D hD)
    exact (zv_lt .f64).1 h3
  have lp : FloatKind.f64.format.leastPlace = -1074 := by decide
  have fb : FloatKind.f64.format.fractionBits = 52 := rfl
  obtain ⟨m, e, hr, hz⟩ := read_fin .f64 fq
  have ew : wide (some x) = some q := by rw [hq]; rfl
  rw [hs, sx] at hr
  by_cases hm : m = 0
  · subst hm
    have e0 : FloatKind.f64.format.sqrt q = some (FloatKind.f64.format.word false 0) := sqrt_zero hr
    have e1 : rootO (some x) = some 0 := by
      unfold rootO
      rw [ew]
      show convO .f64 .f32 (FloatKind.f64.format.sqrt q) = _
      rw [e0]
      exact zero_conv
    have ez : zv .f32 (rung .f32 x) = 0 := by
      rw [Nat.zero_mul, hv] at hz
      rcases Nat.mul_eq_zero.1 hz with h | h
      · exact h
      · exact absurd h (Nat.pos_iff_ne_zero.1 (Nat.two_pow_pos _))
    refine ⟨0, e1, by decide, by decide, fun t ht h => ?_, fun t ht h => ?_⟩
    · rw [show rung .f32 0 = 0 by decide]; exact Nat.zero_le _
    · rw [ez, Nat.zero_mul] at h
      have h1 : zv .f32 t * zv .f32 t = 0 := Nat.le_zero.1 h
      have h2 : zv .f32 t = 0 := by rcases Nat.mul_eq_zero.1 h1 with h | h <;> exact h
      have h3 := (zv_inj .f32 (r := t) (s := 0)).1 (by rw [zv_zero]; exact h2)
      rw [h3]; exact Nat.zero_le _
  · obtain ⟨more, hmo⟩ : ∃ more : Nat, 2 * 54 - m.log2 + (((-1074 + (e : Int)) - ((2 * 54 - m.log2 : Nat) : Int)) % 2).toNat = more := ⟨_, rfl⟩
    obtain ⟨w, hw, hw1, hw2⟩ := whole_root (m <<< more)
    obtain ⟨a, ha⟩ : ∃ a : Nat, ((-1074 + (e : Int) - (more : Int)) / 2 - 1) = -1074 + (a : Int) ∧ e + 1074 = more + 2 * (a + 1) := by
      refine ⟨((-1074 + (e : Int) - (more : Int)) / 2 - 1 + 1074).toNat, ?_, ?_⟩
      · omega
      · omega
    have e0 := sqrt_form hr hm (by rw [fb, lp]; exact hmo) hw (by rw [lp]; exact ha.1)
    obtain ⟨y, hy⟩ : ∃ y, FloatKind.f64.format.nearest false (2 * w + (w * w != m <<< more).toNat) (-1074 + (a : Int)) = y := ⟨_, rfl⟩
    rw [hy] at e0
    obtain ⟨G, hG⟩ : ∃ G : Nat, G = 1074 := ⟨_, rfl⟩
    have lp2 : FloatKind.f32.format.leastPlace = -149 := by decide
    have hnQ : (m <<< more) * (2 ^ (a + 1) * 2 ^ (a + 1)) = zv .f32 (rung .f32 x) * 2 ^ E * (2 ^ D * 2 ^ D) := by
      rw [Nat.shiftLeft_eq, ← Nat.pow_add, Nat.mul_assoc, ← Nat.pow_add, show more + (a + 1 + (a + 1)) = e + G by omega, Nat.pow_add, ← Nat.mul_assoc, ← hz, hv, Nat.mul_assoc, ← Nat.pow_add, Nat.mul_assoc, ← Nat.pow_add, ← Nat.pow_add, show D + G = E + (D + D) by omega]
    have hbig : 2 ^ 108 ≤ m <<< more := by
      rw [Nat.shiftLeft_eq]
      have h1 : 2 ^ m.log2 ≤ m := Nat.log2_self_le hm
      calc 2 ^ 108 ≤ 2 ^ (m.log2 + more) := Nat.pow_le_pow_right (by omega) (by omega)
        _ = 2 ^ m.log2 * 2 ^ more := Nat.pow_add ..
        _ ≤ m * 2 ^ more := Nat.mul_le_mul_right _ h1
    generalize m <<< more = n at *
    have hW : ∀ t, t < FloatKind.f32.format.infRung → ∃ T, Fl.Fin .f64 T ∧ zv .f64 (rung .f64 T) = zv .f32 t * 2 ^ D := fun t ht => by
      have rt : rung .f32 t = t := by
        have : FloatKind.f32.format.infRung = 2139095040 := by decide
        rw [rung32]; omega
      have ft : rung .f32 t < FloatKind.f32.format.infRung := by rw [rt]; exact ht
      obtain ⟨_, h2⟩ := wide_zv ft D hD
      rw [rt] at h2
      refine ⟨_, ?_, h2⟩
      refine (zv_lt .f64).1 ?_
      rw [h2]
      exact Nat.lt_trans (Nat.mul_lt_mul_of_pos_right ((zv_lt .f32).2 ht) (Nat.two_pow_pos _)) (inf_wide D hD)
    have key : ∀ t, t < FloatKind.f32.format.infRung → (zv .f32 (rung .f32 x) * 2 ^ E ≤ zv .f32 t * zv .f32 t → zv .f64 (rung .f64 y) ≤ zv .f32 t * 2 ^ D) ∧ (zv .f32 t * zv .f32 t ≤ zv .f32 (rung .f32 x) * 2 ^ E → zv .f32 t * 2 ^ D ≤ zv .f64 (rung .f64 y)) := fun t ht => by
      obtain ⟨T, fT, hT⟩ := hW t ht
      obtain ⟨c, f, hc, _, hlt⟩ := rung_form .f32 t
      have hc24 : c < 2 ^ 24 := hlt
      obtain ⟨k1, k2⟩ := root_cut (g := f + D) (a := a) hw1 hw2 hbig hc24
      have ec : c * 2 ^ (f + D) = zv .f32 t * 2 ^ D := by rw [Nat.pow_add, ← Nat.mul_assoc, ← hc]
      have esq : zv .f32 t * 2 ^ D * (zv .f32 t * 2 ^ D) = zv .f32 t * zv .f32 t * (2 ^ D * 2 ^ D) := by ac_rfl
      rw [ec, esq, hnQ] at k1 k2
      have e1 : (-1074 + (a : Int) - (-1074)).toNat = a := by omega
      have e2 : (FloatKind.f64.format.leastPlace - (-1074)).toNat = 0 := by rw [lp]; rfl
      refine ⟨fun h => ?_, fun h => ?_⟩
      · rw [← hT]
        refine (zv_le .f64).2 ?_
        rw [← hy]
        refine nearest_le .f64 _ (b := -1074) fT (by omega) (by rw [lp]; omega) ?_
        rw [e1, e2, Nat.pow_zero, Nat.mul_one, hT]
        exact k1 (Nat.mul_le_mul_right _ h)
      · rw [← hT]
        refine (zv_le .f64).2 ?_
        rw [← hy]
        refine nearest_ge .f64 _ (b := -1074) fT (by omega) (by rw [lp]; omega) ?_
        rw [e1, e2, Nat.pow_zero, Nat.mul_one, hT]
        exact k2 (Nat.mul_le_mul_right _ h)
    have fy : Fl.Fin .f64 y := by
      have h1 := (key 2139095039 (by decide)).1 (by
        have fx' : rung .f32 x ≤ 2139095039 := by
          have : FloatKind.f32.format.infRung = 2139095040 := by decide
          have := fx
          unfold Fl.Fin at this
          omega
        refine Nat.mul_le_mul ((zv_le .f32).2 fx') ?_
        exact max_sq E hE)
      have h2 : zv .f32 2139095039 * 2 ^ D < zv .f64 FloatKind.f64.format.infRung := Nat.lt_trans (Nat.mul_lt_mul_of_pos_right ((zv_lt .f32).2 (by decide)) (Nat.two_pow_pos _)) (inf_wide D hD)
      exact (zv_lt .f64).1 (Nat.lt_of_le_of_lt h1 h2)
    obtain ⟨r, hr1, hr2, hr3, hr4, hr5⟩ := narrow_cut fy D hD
    have e1 : rootO (some x) = some r := by
      unfold rootO
      rw [ew]
      show convO .f64 .f32 (FloatKind.f64.format.sqrt q) = _
      rw [e0]; exact hr1
    refine ⟨r, e1, hr2, ?_, fun t ht h => hr4 t ht ((key t ht).1 h), fun t ht h => hr5 t ht ((key t ht).2 h)⟩
    rw [hr3, ← hy]
    exact sgn_nearest _ _ _ _
end Go.Proofs.Ytfgebggfoboalaa

/- The root of the mean of squares of plain numbers: between the least and the greatest size, but for one place. -/
set_option linter.unusedVariables false
set_option linter.unusedSimpArgs false
namespace Go.Proofs.Ytfgebggfoboalaa
open Fl Go.RowKit Ieee
def moreP (P : Nat) : Nat := if P = 0 then 0 else P + 16
def rmT (P n : Nat) : Bool := match itS (some P) n with
  | some W => match qu (some W) (some (fI (n : Int))) with
    | some q =>
      let T := moreP (rung .f32 q)
      let L := rung .f32 q - 1
      decide (T < 2139095040) && decide (zv .f32 (rung .f32 W) * 2 ^ 149 ≤ zv .f32 T * zv .f32 (rung .f32 (fI (n : Int)))) && decide (zv .f32 T * 2 ^ 149 ≤ zv .f32 (moreP P) * zv .f32 (moreP P)) &&
        decide (zv .f32 L * zv .f32 (rung .f32 (fI (n : Int))) ≤ zv .f32 (rung .f32 W) * 2 ^ 149) && decide (zv .f32 (P - 16) * zv .f32 (P - 16) ≤ zv .f32 L * 2 ^ 149)
    | none => false
  | none => false
set_option maxRecDepth 1000000 in
set_option maxHeartbeats 1000000000 in
theorem rm_tab0 : (List.range 43).all (fun i => (List.range 9).all fun n => rmT (plW (0 + i) % 2147483648) (n + 1)) = true := by decide +kernel
set_option maxRecDepth 1000000 in
set_option maxHeartbeats 1000000000 in
theorem rm_tab1 : (List.range 43).all (fun i => (List.range 9).all fun n => rmT (plW (43 + i) % 2147483648) (n + 1)) = true := by decide +kernel
set_option maxRecDepth 1000000 in
set_option maxHeartbeats 1000000000 in
theorem rm_tab2 : (List.range 43).all (fun i => (List.range 9).all fun n => rmT (plW (86 + i) % 2147483648) (n + 1)) = true := by decide +kernel
set_option maxRecDepth 1000000 in
set_option maxHeartbeats 1000000000 in
theorem rm_tab3 : (List.range 43).all (fun i => (List.range 9).all fun n => rmT (plW (129 + i) % 2147483648) (n + 1)) = true := by decide +kernel
set_option maxRecDepth 1000000 in
set_option maxHeartbeats 1000000000 in
theorem rm_tab4 : (List.range 43).all (fun i => (List.range 9).all fun n => rmT (plW (172 + i) % 2147483648) (n + 1)) = true := by decide +kernel
set_option maxRecDepth 1000000 in
set_option maxHeartbeats 1000000000 in
theorem rm_tab5 : (List.range 43).all (fun i => (List.range 9).all fun n => rmT (plW (215 + i) % 2147483648) (n + 1)) = true := by decide +kernel
theorem rm_tab {i n : Nat} (hi : i < 258) (h1 : 1 ≤ n) (hn : n ≤ 9) : rmT (plW i % 2147483648) n = true := by
  obtain ⟨k, j, rfl, hj⟩ : ∃ k j, i = 43 * k + j ∧ j < 43 := ⟨i / 43, i % 43, by omega, by omega⟩
  have hk : k = 0 ∨ k = 1 ∨ k = 2 ∨ k = 3 ∨ k = 4 ∨ k = 5 := by omega
  obtain ⟨m, rfl⟩ : ∃ m, n = m + 1 := ⟨n - 1, by omega⟩
  have go : ∀ s, (List.range 43).all (fun i => (List.range 9).all fun n => rmT (plW (s + i) % 2147483648) (n + 1)) = true → rmT (plW (s + j) % 2147483648) (m + 1) = true := fun s h =>
    List.all_eq_true.1 (List.all_eq_true.1 h j (List.mem_range.2 hj)) m (List.mem_range.2 (by omega))
  rcases hk with rfl | rfl | rfl | rfl | rfl | rfl
  · exact go _ rm_tab0
  · exact go _ rm_tab1
  · exact go _ rm_tab2
  · exact go _ rm_tab3
  · exact go _ rm_tab4
  · exact go _ rm_tab5
theorem fi_small : ∀ n : Nat, n < 20 → rung .f32 (fI (n : Int)) < 2139095040 ∧ (n = 0 ∨ rung .f32 (fI (n : Int)) ≠ 0) ∧ sgn .f32 (fI (n : Int)) = false := by decide +kernel
theorem mean_between (xs : List Nat) {n i l : Nat} (h1 : 1 ≤ n) (hn : n ≤ 9) (hi : i < 258) (hl : l < 258)
    (h : ∀ j, j < n → ∃ x, ab .f32 (wd xs j) = some x ∧ rung .f32 x ≤ rung .f32 (plW i % 2147483648) ∧ rung .f32 (plW l % 2147483648) ≤ rung .f32 x) :
    ∃ r, meanO xs n = some r ∧ r < 4294967296 ∧ sgn .f32 r = false ∧ rung .f32 r ≤ moreP (plW i % 2147483648) ∧ plW l % 2147483648 - 16 ≤ rung .f32 r := by
  obtain ⟨d, u, w, e1, e2, e3, r1, r2, s1⟩ := dot_between xs (by omega) hi hl h n (Nat.le_refl _)
  obtain ⟨w', f1, fw, sw⟩ := itS_ok hi (show n ≤ 14 by omega)
  rw [e3] at f1; injection f1 with f1; subst f1
  obtain ⟨u', f2, fu, su⟩ := itS_ok hl (show n ≤ 14 by omega)
  rw [e2] at f2; injection f2 with f2; subst f2
  have fd : Fl.Fin .f32 d := Nat.lt_of_le_of_lt r2 fw
  obtain ⟨k1, k2, k3⟩ := fi_small n (by omega)
  have k2' : rung .f32 (fI (n : Int)) ≠ 0 := by rcases k2 with h | h <;> omega
  have fn : Fl.Fin .f32 (fI (n : Int)) := by show rung .f32 _ < _; rw [ir_f32]; exact k1
  have tU := rm_tab hi h1 hn
  have tL := rm_tab hl h1 hn
  have pU := (pl_small i hi).2
  have pL := (pl_small l hl).2
  generalize plW i % 2147483648 = P at *
  generalize plW l % 2147483648 = Q at *
  unfold rmT at tU tL
  rw [e3] at tU
  rw [e2] at tL
  dsimp only at tU tL
  cases qU : qu (some w) (some (fI (n : Int))) with
  | none => rw [qU] at tU; exact absurd tU Bool.false_ne_true
  | some q1 =>
  cases qL : qu (some u) (some (fI (n : Int))) with
  | none => rw [qL] at tL; exact absurd tL Bool.false_ne_true
  | some q2 =>
  rw [qU] at tU
  rw [qL] at tL
  simp only [Bool.and_eq_true, decide_eq_true_eq] at tU tL
  obtain ⟨⟨⟨⟨a1, a2⟩, a3⟩, _⟩, _⟩ := tU
  obtain ⟨⟨⟨⟨b1, _⟩, _⟩, b4⟩, b5⟩ := tL
  obtain ⟨T, hT⟩ : ∃ T, T = moreP (rung .f32 q1) := ⟨_, rfl⟩
  obtain ⟨L, hL⟩ : ∃ L, L = rung .f32 q2 - 1 := ⟨_, rfl⟩
  rw [← hT] at a1 a2 a3
  rw [← hL] at b4 b5
  have b1' : L < 2139095040 := by unfold moreP at b1; split at b1 <;> omega
  have rT : rung .f32 T = T := by rw [rung32]; omega
  have rL : rung .f32 L = L := by rw [rung32]; omega
  obtain ⟨E, hE⟩ : ∃ E : Nat, E = 149 := ⟨_, rfl⟩
  rw [← hE] at a2 a3 b4 b5
  obtain ⟨x, hx, hx2⟩ := div_size .f32 (t := T) fd fn (by show rung .f32 _ < _; rw [rT, ir_f32]; exact a1) k2' E (by rw [hE]; decide)
    (by rw [rT]; exact Nat.le_trans (Nat.mul_le_mul_right _ ((zv_le .f32).2 r2)) a2)
  obtain ⟨x2, hx3, hx4⟩ := div_low .f32 (t := L) fd fn (by show rung .f32 _ < _; rw [rL, ir_f32]; exact b1') k2' E (by rw [hE]; decide)
    (by rw [rL]; exact Nat.le_trans b4 (Nat.mul_le_mul_right _ ((zv_le .f32).2 r1)))
  rw [hx] at hx3; injection hx3 with hx3; subst hx3
  obtain ⟨x2, hx3, sx⟩ := div_sign .f32 fd fn k2'
  rw [hx] at hx3; injection hx3 with hx3; subst hx3
  rw [s1, k3] at sx
  rw [rT] at hx2
  rw [rL] at hx4
  have fx : Fl.Fin .f32 x := by show rung .f32 _ < _; rw [ir_f32]; omega
  obtain ⟨r, g1, g2, g3, g4, g5⟩ := root_bounds fx sx E hE
  have iP : moreP P < FloatKind.f32.format.infRung := by rw [ir_f32]; unfold moreP; split <;> omega
  have q4 := g4 (moreP P) iP (Nat.le_trans (Nat.mul_le_mul_right _ ((zv_le .f32).2 hx2)) a3)
  have iQ : Q - 16 < FloatKind.f32.format.infRung := by rw [ir_f32]; omega
  have b6 : zv .f32 L * 2 ^ E ≤ zv .f32 (rung .f32 x) * 2 ^ E := Nat.mul_le_mul_right (2 ^ E) ((zv_le .f32).2 hx4)

  have q5 := g5 (Q - 16) iQ (Nat.le_trans b5 b6)
  refine ⟨r, ?_, g2, g3, q4, q5⟩
  unfold meanO
  rw [e1, show qu (some d) (some (fI (n : Int))) = some x from hx]
  exact g1
set_option maxRecDepth 100000 in
theorem peak_tab16 : ∀ i : Nat, i < 258 → (match floatBits .mul .f64 cMore (w64 (plW i % 2147483648)) with
    | some z => decide (sgn .f64 z = false) && decide (rung .f64 z < FloatKind.f64.format.infRung) && (decide (plW i % 2147483648 = 0) || decide (rung .f64 (w64 (plW i % 2147483648 + 16)) ≤ rung .f64 z))
    | none => false) = true := by decide +kernel
set_option maxRecDepth 100000 in
theorem low_tab : ∀ i : Nat, i < 258 → (match floatBits .mul .f64 cMore (w64 (plW i % 2147483648 - 16)) with
    | some z => decide (sgn .f64 z = false) && decide (rung .f64 z < FloatKind.f64.format.infRung) && decide (rung .f64 (w64 (plW i % 2147483648)) ≤ rung .f64 z)
    | none => false) = true := by decide +kernel
/-- a number that is at most the next one behind the peak is not greater than 1.0001 peaks -/
theorem more_peak {i q : Nat} (hi : i < 258) (fq : Fl.Fin .f32 q) (sq : sgn .f32 q = false) (hq : rung .f32 q ≤ moreP (plW i % 2147483648)) :
    ∃ z, floatBits .mul .f64 cMore (w64 (plW i % 2147483648)) = some z ∧ (FloatKind.f64.format.order (w64 q) z == some .gt) = false := by
  have ht := peak_tab16 i hi
  obtain ⟨p1, p2⟩ := pl_small i hi
  generalize plW i % 2147483648 = P at *
  cases hz : floatBits .mul .f64 cMore (w64 P) with
  | none => rw [hz] at ht; exact absurd ht Bool.false_ne_true
  | some z =>
    rw [hz] at ht
    simp only [Bool.and_eq_true, Bool.or_eq_true, decide_eq_true_eq] at ht
    obtain ⟨⟨sz, fz⟩, hr⟩ := ht
    obtain ⟨D, hD⟩ : ∃ D : Nat, D = 925 := ⟨_, rfl⟩
    obtain ⟨fq2, sq2, vq⟩ := wide_finD fq D hD
    refine ⟨z, rfl, not_gt64 fq2 fz (sq2.trans sq) sz ?_⟩
    unfold moreP at hq
    by_cases h0 : P = 0
    · rw [if_pos h0] at hq
      rw [Nat.le_zero.1 hq, zv_zero, Nat.zero_mul] at vq
      have := (zv_inj .f64 (r := rung .f64 (w64 q)) (s := 0)).1 (by rw [zv_zero]; exact vq)
      omega
    · rw [if_neg h0] at hq
      rcases hr with h1 | h1
      · exact absurd h1 h0
      refine Nat.le_trans ?_ h1
      have f1 : Fl.Fin .f32 (P + 16) := by show rung .f32 _ < _; rw [rung32, ir_f32]; omega
      obtain ⟨_, _, v1⟩ := wide_finD f1 D hD
      have hr1 : rung .f32 (P + 16) = P + 16 := by rw [rung32]; omega
      refine (zv_le .f64).1 ?_
      rw [vq, v1, hr1]
      exact Nat.mul_le_mul_right _ ((zv_le .f32).2 hq)
theorem ge64R {x z : Nat} (fx : Fl.Fin .f64 x) (fz : Fl.Fin .f64 z) (sx : sgn .f64 x = false) (sz : sgn .f64 z = false) (h : rung .f64 z ≤ rung .f64 x) : (FloatKind.f64.format.order x z == some .gt || FloatKind.f64.format.order x z == some .eq) = true := by
  rw [order_key .f64 (fin_abK fx) (fin_abK fz)]
  unfold key
  rw [sx, sz]
  show (some (compare (rung .f64 x : Int) (rung .f64 z : Int)) == some .gt || some (compare (rung .f64 x : Int) (rung .f64 z : Int)) == some .eq) = true
  rw [cmp_def]
  rw [if_neg (by omega)]
  split <;> rfl
/-- 1.0001 of a number that is at least the one before the least size is not less than this -/
theorem low_more {i q : Nat} (hi : i < 258) (fq : Fl.Fin .f32 q) (sq : sgn .f32 q = false) (h8 : rung .f32 q ≤ 1092000100) (hq : plW i % 2147483648 - 16 ≤ rung .f32 q) :
    ∃ z, floatBits .mul .f64 cMore (w64 q) = some z ∧ (FloatKind.f64.format.order z (w64 (plW i % 2147483648)) == some .gt || FloatKind.f64.format.order z (w64 (plW i % 2147483648)) == some .eq) = true := by
  have ht := low_tab i hi
  obtain ⟨p1, p2⟩ := pl_small i hi
  generalize plW i % 2147483648 = P at *
  cases hz : floatBits .mul .f64 cMore (w64 (P - 16)) with
  | none => rw [hz] at ht; exact absurd ht Bool.false_ne_true
  | some z =>
    rw [hz] at ht
    simp only [Bool.and_eq_true, decide_eq_true_eq] at ht
    obtain ⟨⟨sz, fz⟩, hr⟩ := ht
    obtain ⟨D, hD⟩ : ∃ D : Nat, D = 925 := ⟨_, rfl⟩
    obtain ⟨fq2, sq2, vq⟩ := wide_finD fq D hD
    have f1 : Fl.Fin .f32 (P - 16) := by show rung .f32 _ < _; rw [rung32, ir_f32]; omega
    have f2 : Fl.Fin .f32 P := by show rung .f32 _ < _; rw [rung32, ir_f32]; omega
    have f3 : Fl.Fin .f32 1092000100 := by show rung .f32 _ < _; rw [rung32, ir_f32]; omega
    obtain ⟨f12, s12, v1⟩ := wide_finD f1 D hD
    obtain ⟨f22, s22, v2⟩ := wide_finD f2 D hD
    obtain ⟨f32', s32, v3⟩ := wide_finD f3 D hD
    have hr1 : rung .f32 (P - 16) = P - 16 := by rw [rung32]; omega
    have hr3 : rung .f32 1092000100 = 1092000100 := by decide
    have hle : rung .f64 (w64 (P - 16)) ≤ rung .f64 (w64 q) := by
      refine (zv_le .f64).1 ?_
      rw [vq, v1, hr1]
      exact Nat.mul_le_mul_right _ ((zv_le .f32).2 hq)
    have hle2 : rung .f64 (w64 q) ≤ rung .f64 (w64 1092000100) := by
      refine (zv_le .f64).1 ?_
      rw [vq, v3, hr3]
      exact Nat.mul_le_mul_right _ ((zv_le .f32).2 h8)
    have fM : Fl.Fin .f64 cMore := by show rung .f64 cMore < _; decide +kernel
    have sM : sgn .f64 cMore = false := by decide
    obtain ⟨z1, z2, e1, e2, l1⟩ := mul_size .f64 fM f12 fM fq2 (Nat.le_refl _) hle
    rw [hz] at e1; injection e1 with e1; subst e1
    obtain ⟨z3, z4, e3, e4, l2⟩ := mul_size .f64 fM fq2 fM f32' (Nat.le_refl _) hle2
    rw [e2] at e3; injection e3 with e3; subst e3
    have fz4 : ∀ z, floatBits .mul .f64 cMore (w64 1092000100) = some z → Fl.Fin .f64 z := by
      intro z h
      show rung .f64 z < _
      have : ∀ q, floatBits .mul .f64 cMore (w64 1092000100) = some q → rung .f64 q < FloatKind.f64.format.infRung := by decide +kernel
      exact this z h
    have fz2 : Fl.Fin .f64 z2 := Nat.lt_of_le_of_lt l2 (fz4 _ e4)
    obtain ⟨P2, hP2⟩ : ∃ P2 : Nat, P2 = 1074 := ⟨_, rfl⟩
    obtain ⟨z5, e5, s5, _⟩ := mul_val .f64 fM fq2 P2 (by rw [hP2]; decide)
    rw [e2] at e5; injection e5 with e5; subst e5
    rw [sM, sq2, sq] at s5
    refine ⟨z2, e2, ge64R fz2 f22 s5 ?_ (Nat.le_trans hr l1)⟩
    rw [s22]
    unfold sgn
    have hs : FloatKind.f32.format.signWeight = 2147483648 := by decide
    rw [hs, show P / 2147483648 = 0 by omega]
    rfl
end Go.Proofs.Ytfgebggfoboalaa

/- The builtins max and min at sizes of plain numbers, and what FnBent's loop over them keeps. -/
set_option linter.unusedVariables false
set_option linter.unusedSimpArgs false
namespace Go.Proofs.Ytfgebggfoboalaa
open Fl Go.RowKit Ieee
def maxW (x y : Nat) : Option Nat := match FloatKind.f32.format.order x y with
  | none => none
  | some .lt => some y
  | some .gt => some x
  | some .eq => some (if (FloatKind.f32.decode x).neg then y else x)
def minW (x y : Nat) : Option Nat := match FloatKind.f32.format.order x y with
  | none => none
  | some .lt => some x
  | some .gt => some y
  | some .eq => some (if (FloatKind.f32.decode x).neg then x else y)
theorem run_maxF {P : Program} (ts : Array TypeId) (t : TypeId) (x y r : Nat) (h : maxW x y = some r) (W : World) : (Builtin.max_ ts t #[.float .f32 x, .float .f32 y]).run P W = .ok (.float .f32 r) W := by
  unfold maxW at h
  cases h1 : FloatKind.f32.format.order x y with
  | none => rw [h1] at h; cases h
  | some o =>
    rw [h1] at h
    cases o <;> (injection h with h; subst h; simp [Builtin.max_, Builtin.max2, h1])
theorem run_minF {P : Program} (ts : Array TypeId) (t : TypeId) (x y r : Nat) (h : minW x y = some r) (W : World) : (Builtin.min_ ts t #[.float .f32 x, .float .f32 y]).run P W = .ok (.float .f32 r) W := by
  unfold minW at h
  cases h1 : FloatKind.f32.format.order x y with
  | none => rw [h1] at h; cases h
  | some o =>
    rw [h1] at h
    cases o <;> (injection h with h; subst h; simp [Builtin.min_, Builtin.min2, h1])
set_option maxRecDepth 100000 in
theorem max_tab : ∀ i : Nat, i < 258 → maxW (plW i) (Op.negFloat .f32 (plW i)) = some (plW i % 2147483648) := by decide +kernel
theorem ord_nat {x y : Nat} (hx : x ≤ 2139095040) (hy : y ≤ 2139095040) : FloatKind.f32.format.order x y = some (compare (x : Int) (y : Int)) := by
  have f : ∀ {b : Nat}, b ≤ 2139095040 → ab .f32 b = some b ∧ key .f32 b = (b : Int) := fun {b} hb => by
    refine ⟨by rw [ab32, if_neg (by omega)], ?_⟩
    have hs : FloatKind.f32.format.signWeight = 2147483648 := by decide
    unfold key sgn sg
    rw [rung32, hs, show b / 2147483648 = 0 by omega, show b % 2147483648 = b by omega]; rfl
  rw [order_key .f32 (f hx).1 (f hy).1, (f hx).2, (f hy).2]
theorem min_nat {x y : Nat} (hx : x ≤ 2139095040) (hy : y ≤ 2139095040) : minW x y = some (min x y) := by
  unfold minW
  rw [ord_nat hx hy, cmp_def]
  rcases Nat.lt_trichotomy x y with h | h | h
  · rw [if_pos (by omega), Nat.min_eq_left (by omega)]
  · subst h
    rw [if_neg (by omega), if_pos rfl, Nat.min_self]
    show some (if _ then x else x) = _
    rw [ite_self]
  · rw [if_neg (by omega), if_neg (by omega), Nat.min_eq_right (by omega)]
theorem ge_zeroR {r : Nat} (lr : r < 4294967296) (fr : Fl.Fin .f32 r) (sr : sgn .f32 r = false) : (FloatKind.f32.format.order r 0 == some .gt || FloatKind.f32.format.order r 0 == some .eq) = true := by
  have e : r = rung .f32 r := by
    have hs : FloatKind.f32.format.signWeight = 2147483648 := by decide
    unfold sgn at sr
    rw [hs] at sr
    rw [rung32]
    have : r / 2147483648 % 2 ≠ 1 := by simpa using sr
    omega
  have h1 : r ≤ 2139095040 := by rw [e]; have := fr; unfold Fl.Fin at this; rw [ir_f32] at this; omega
  rw [ord_nat h1 (by omega), cmp_def, if_neg (by omega)]
  split <;> rfl
/-- everything that the law asks of roots, for plain numbers -/
theorem root_all (xs : List Nat) (hs : Small xs) {n : Nat} (h1 : 1 ≤ n) (hn : n ≤ 9) (hp : ∀ j, j < n → Pl (ab .f32 (wd xs j))) :
    ∃ i r z, i < 258 ∧ peakN xs n = plW i % 2147483648 ∧ meanO xs n = some r ∧ r < 4294967296 ∧ ab .f32 r = some r ∧
      (FloatKind.f32.format.order r 0 == some .gt || FloatKind.f32.format.order r 0 == some .eq) = true ∧
      floatBits .mul .f64 cMore (w64 (plW i % 2147483648)) = some z ∧ (FloatKind.f64.format.order (w64 r) z == some .gt) = false ∧
      ∀ l, l < 258 → (∀ j, j < n → plW l % 2147483648 ≤ sizeN (wd xs j)) → ∃ y, floatBits .mul .f64 cMore (w64 r) = some y ∧ (FloatKind.f64.format.order y (w64 (plW l % 2147483648)) == some .gt || FloatKind.f64.format.order y (w64 (plW l % 2147483648)) == some .eq) = true := by
  obtain ⟨i, hi, hP, hx⟩ := peak_plain xs hs hp
  have hall : ∀ l, l < 258 → (∀ j, j < n → plW l % 2147483648 ≤ sizeN (wd xs j)) → ∀ j, j < n → ∃ x, ab .f32 (wd xs j) = some x ∧ rung .f32 x ≤ rung .f32 (plW i % 2147483648) ∧ rung .f32 (plW l % 2147483648) ≤ rung .f32 x := by
    intro l hl hle j hj
    obtain ⟨s, e1, e2, e3⟩ := hx j hj
    obtain ⟨i2, hi2, e4⟩ := hp j hj
    refine ⟨plW i2, e4, ?_, ?_⟩
    · rw [e4] at e1
      injection e1 with e1
      have : rung .f32 s = rung .f32 (plW i2) := by rw [← e1]; unfold sizeN; rw [rung32, rung32]; omega
      omega
    · have e5 := ab_some e4
      have := hle j hj
      rw [← e5] at this
      unfold sizeN at this
      rw [rung32, rung32]; omega
  obtain ⟨p1, p2⟩ := pl_small i hi
  have h64 : plW 64 % 2147483648 = 0 := by decide
  obtain ⟨r, e1, e2, e3, e4, e5⟩ := mean_between xs h1 hn hi (show 64 < 258 by decide) (hall 64 (by decide) (fun j hj => by rw [h64]; exact Nat.zero_le _))
  have hr8 : rung .f32 r ≤ 1092000100 := Nat.le_trans e4 (by unfold moreP; split <;> omega)
  have fr : Fl.Fin .f32 r := by show rung .f32 r < _; rw [ir_f32]; omega
  obtain ⟨z, hz, hz2⟩ := more_peak hi fr e3 e4
  refine ⟨i, r, z, hi, hP, e1, e2, fin_abK fr, ge_zeroR e2 fr e3, hz, hz2, fun l hl hle => ?_⟩
  obtain ⟨r', f1, f2, f3, f4, f5⟩ := mean_between xs h1 hn hi hl (hall l hl hle)
  rw [e1] at f1
  injection f1 with f1
  subst f1
  exact low_more hl fr e3 hr8 f5
end Go.Proofs.Ytfgebggfoboalaa

/- A bent sample is at most 1. -/
set_option linter.unusedVariables false
set_option linter.unusedSimpArgs false
namespace Go.Proofs.Ytfgebggfoboalaa
open Fl Go.RowKit Ieee
/-- the integers of the bound: m is the sample in units of 2^-24, A and C bound the square and the other factor -/
theorem bend_nat {m t A C : Nat} (hm : m + t = 16777216) (ht : 5800 ≤ t) (hA : m * m < (A + 1) * 16777216) (hC : 4 * C ≤ 3 * 16777216 - A + 3) (hA2 : A ≤ 16777216) : m * C ≤ 140737488355328 := by
  -- 4 m C 2^24 <= m (3 2^48 - m^2 + 2^26) <= 2^73
  have h1 : 4 * C * 16777216 + m * m ≤ 3 * 16777216 * 16777216 + 4 * 16777216 := by omega
  have h2 : m * (4 * C * 16777216 + m * m) ≤ m * (3 * 16777216 * 16777216 + 4 * 16777216) := Nat.mul_le_mul_left m h1
  have tt : 33554432 ≤ t * t := Nat.le_trans (by decide : 33554432 ≤ 5800 * 5800) (Nat.mul_le_mul ht ht)
  -- with N = m + t: m (3 N^2 + 4 N) - m^3 <= 2 N^3
  have h3 : m * (3 * 16777216 * 16777216 + 4 * 16777216) ≤ 2 * 16777216 * 16777216 * 16777216 + m * (m * m) := by
    have hN : (16777216 : Nat) = m + t := hm.symm
    have key : 4 * 16777216 * m ≤ t * t * (2 * 16777216 + m) := by
      have k1 : 4 * 16777216 * m ≤ 4 * 16777216 * 16777216 := Nat.mul_le_mul_left _ (by omega)
      have k2 : 33554432 * (2 * 16777216) ≤ t * t * (2 * 16777216 + m) := Nat.mul_le_mul tt (by omega)
      omega
    generalize 16777216 = N at *
    subst hN
    have e1 : m * (3 * (m + t) * (m + t) + 4 * (m + t)) = 3 * (m * m * m) + 6 * (m * m * t) + 3 * (m * t * t) + 4 * (m + t) * m := by
      grind
    have e2 : 2 * (m + t) * (m + t) * (m + t) = 2 * (m * m * m) + 6 * (m * m * t) + 6 * (m * t * t) + 2 * (t * t * t) := by
      grind
    have e3 : t * t * (2 * (m + t) + m) = 3 * (m * t * t) + 2 * (t * t * t) := by
      grind
    rw [e1, e2]
    rw [e3] at key
    have e4 : m * (m * m) = m * m * m := (Nat.mul_assoc m m m).symm
    omega
  have h4 : m * (4 * C * 16777216 + m * m) = 67108864 * (m * C) + m * (m * m) := by
    rw [Nat.mul_add]
    congr 1
    rw [show 4 * C * 16777216 = 67108864 * C by omega]
    exact Nat.mul_left_comm m 67108864 C
  rw [h4] at h2
  omega
theorem zv15 (E : Nat) (hE : 2 ^ 124 = E) : zv .f32 (rung .f32 1069547520) = 50331648 * E := by subst hE; decide +kernel
theorem zv05 (E : Nat) (hE : 2 ^ 124 = E) : zv .f32 (rung .f32 1056964608) = 16777216 * E := by subst hE; decide +kernel
theorem zv10 (E : Nat) (hE : 2 ^ 124 = E) : zv .f32 1065353216 = 33554432 * E := by subst hE; decide +kernel
theorem p149 (E : Nat) (hE : 2 ^ 124 = E) : 2 ^ 149 = 33554432 * E := by subst hE; decide +kernel
theorem p125 (E : Nat) (hE : 2 ^ 124 = E) : 2 ^ 125 = 2 * E := by subst hE; decide +kernel
theorem p126 (E : Nat) (hE : 2 ^ 124 = E) : 2 ^ 126 = 4 * E := by subst hE; decide +kernel
/-- where x is from 1/2 to 1 - 5800 * 2^-24, its bend is at most 1 -/
theorem bend_mid {x : Nat} (h1 : 1056964608 ≤ rung .f32 x) (h2 : rung .f32 x + 5800 ≤ 1065353216) :
    ∃ y, bendR (some x) = some y ∧ rung .f32 y ≤ 1065353216 ∧ sgn .f32 y = sgn .f32 x := by
  obtain ⟨E, hE⟩ : ∃ E : Nat, 2 ^ 124 = E := ⟨_, rfl⟩
  have fx : Fl.Fin .f32 x := by show rung .f32 x < _; rw [ir_f32]; omega
  have f1 : (1065353216 : Nat) < FloatKind.f32.format.infRung := by decide
  obtain ⟨m, hm⟩ : ∃ m, m = 8388608 + rung .f32 x % 8388608 := ⟨_, rfl⟩
  have hb : FloatKind.f32.format.binade = 8388608 := by decide
  have zx : zv .f32 (rung .f32 x) = m * (2 * E) := by
    unfold zv
    rw [hb, if_neg (by omega), show rung .f32 x / 8388608 - 1 = 125 by omega, ← hm, p125 E hE]
  obtain ⟨t, ht⟩ : ∃ t, m + t = 16777216 := ⟨16777216 - m, by omega⟩
  have ht2 : 5800 ≤ t := by omega
  have ml : m < 16777216 := by omega
  have eP := p149 E hE
  have e1 := zv10 E hE
  -- the square
  obtain ⟨a, ha, sa, la, ga⟩ := mul_val .f32 fx fx 149 (by decide)
  obtain ⟨A, hA⟩ : ∃ A, A = m * m / 16777216 := ⟨_, rfl⟩
  have hA1 : m * m < (A + 1) * 16777216 := by rw [hA]; have := Nat.div_add_mod (m * m) 16777216; have := Nat.mod_lt (m * m) (show 0 < 16777216 by decide); omega
  have hA0 : A * 16777216 ≤ m * m := by rw [hA]; exact Nat.div_mul_le_self _ _
  have hA2 : A < 16777216 := by
    have h9 : m * m ≤ 16777215 * 16777215 := Nat.mul_le_mul (by omega) (by omega)
    omega
  rw [zx, eP] at la ga
  have ra : rung .f32 a ≤ 1065353216 := la _ f1 (by
    rw [e1]
    exact Nat.mul_le_mul (by have := Nat.mul_le_mul_right (2 * E) (Nat.le_of_lt ml); omega) (by have := Nat.mul_le_mul_right (2 * E) (Nat.le_of_lt ml); omega))
  have fa : Fl.Fin .f32 a := Nat.lt_of_le_of_lt ra f1
  obtain ⟨wa, fwa, zwa⟩ := rep .f32 (m := A) (e := 125) hA2 (by decide)
  rw [p125 E hE] at zwa
  have za : A * (2 * E) ≤ zv .f32 (rung .f32 a) := by
    rw [← zwa]
    refine (zv_le .f32).2 (ga wa fwa ?_)
    rw [zwa]
    have e2 : A * (2 * E) * (33554432 * E) = 4 * (A * 16777216) * (E * E) := by grind
    have e3 : m * (2 * E) * (m * (2 * E)) = 4 * (m * m) * (E * E) := by grind
    rw [e2, e3]
    exact Nat.mul_le_mul_right _ (Nat.mul_le_mul_left _ hA0)
  have za2 : zv .f32 (rung .f32 a) ≤ 33554432 * E := by rw [← e1]; exact (zv_le .f32).2 ra
  -- its half
  have f05 : Fl.Fin .f32 1056964608 := by show rung .f32 1056964608 < _; decide
  have z05 := zv05 E hE
  obtain ⟨h, hh, sh, lh, gh⟩ := mul_val .f32 f05 fa 149 (by decide)
  rw [z05, eP] at lh gh
  have rh : rung .f32 h ≤ 1065353216 := lh _ f1 (by rw [e1]; exact Nat.mul_le_mul (by omega) za2)
  have fh : Fl.Fin .f32 h := Nat.lt_of_le_of_lt rh f1
  obtain ⟨wh, fwh, zwh⟩ := rep .f32 (m := A) (e := 124) hA2 (by decide)
  rw [hE] at zwh
  have zh : A * E ≤ zv .f32 (rung .f32 h) := by
    rw [← zwh]
    refine (zv_le .f32).2 (gh wh fwh ?_)
    rw [zwh]
    have e2 : A * E * (33554432 * E) = 16777216 * E * (A * (2 * E)) := by grind
    rw [e2]
    exact Nat.mul_le_mul_left _ za
  have zh2 : zv .f32 (rung .f32 h) ≤ 33554432 * E := by rw [← e1]; exact (zv_le .f32).2 rh
  have sh2 : sgn .f32 h = false := by rw [sh, sa, show sgn .f32 1056964608 = false from by decide]; cases sgn .f32 x <;> rfl
  -- the other factor
  have f15 : Fl.Fin .f32 1069547520 := by show rung .f32 1069547520 < _; decide
  have z15 := zv15 E hE
  obtain ⟨c, hc, Rc, _⟩ := sub_val .f32 f15 fh
  have v15 : sv .f32 1069547520 = ((50331648 * E : Nat) : Int) := by
    unfold sv sg; rw [show sgn .f32 1069547520 = false from by decide, z15]; rfl
  have vh : sv .f32 h = (zv .f32 (rung .f32 h) : Int) := by unfold sv sg; rw [sh2]; rfl
  rw [v15, vh] at Rc
  have hEp : 0 < E := by rw [← hE]; exact Nat.two_pow_pos _
  obtain ⟨C, hC⟩ : ∃ C, C = (50331648 - A + 3) / 4 := ⟨_, rfl⟩
  obtain ⟨wc, fwc, zwc⟩ := rep .f32 (m := C) (e := 126) (show C < 16777216 by omega) (by decide)
  rw [p126 E hE] at zwc
  have hCE : (50331648 - A) * E ≤ C * (4 * E) := by
    have e2 : C * (4 * E) = 4 * C * E := by grind
    rw [e2]
    exact Nat.mul_le_mul_right _ (by omega)
  have hsub : (50331648 - A) * E = 50331648 * E - A * E := Nat.sub_mul _ _ _
  have zc : zv .f32 (rung .f32 c) ≤ C * (4 * E) := by
    rw [← zwc]
    refine (zv_le .f32).2 (Rc.le wc fwc ?_)
    rw [zwc]
    omega
  have sc : sgn .f32 c = false := by rw [Rc.sgn (by omega)]; exact decide_eq_false (by omega)
  have fc : Fl.Fin .f32 c := Nat.lt_of_le_of_lt (Rc.le wc fwc (by rw [zwc]; omega)) fwc
  -- the product
  obtain ⟨y, hy, sy, ly, _⟩ := mul_val .f32 fx fc 149 (by decide)
  rw [zx, eP] at ly
  have fin := bend_nat ht ht2 hA1 (show 4 * C ≤ 3 * 16777216 - A + 3 by omega) (by omega)
  have ry : rung .f32 y ≤ 1065353216 := ly _ f1 (by
    rw [e1]
    refine Nat.le_trans (Nat.mul_le_mul_left _ zc) ?_
    have e2 : m * (2 * E) * (C * (4 * E)) = 8 * (m * C) * (E * E) := by grind
    have e3 : 33554432 * E * (33554432 * E) = 8 * 140737488355328 * (E * E) := by grind
    rw [e2, e3]
    exact Nat.mul_le_mul_right _ (Nat.mul_le_mul_left _ fin))
  refine ⟨y, ?_, ry, by rw [sy, sc]; cases sgn .f32 x <;> rfl⟩
  unfold bendR
  show opO .mul .f32 (some x) (opO .sub .f32 (some 1069547520) (opO .mul .f32 (some 1056964608) (opO .mul .f32 (some x) (some x)))) = some y
  rw [show opO .mul .f32 (some x) (some x) = some a from ha, show opO .mul .f32 (some 1056964608) (some a) = some h from hh, show opO .sub .f32 (some 1069547520) (some h) = some c from hc]
  exact hy
/-- what is said of a bend -/
def bendT (x : Nat) : Bool := match bendR (some x) with | some y => decide (rung .f32 y ≤ 1065353216) && decide (sgn .f32 y = false) | none => false
set_option maxRecDepth 1000000 in
theorem bend_tab0 : (List.range 200).all (fun i => bendT (1065347416 + i)) = true := by decide +kernel
set_option maxRecDepth 1000000 in
theorem bend_tab1 : (List.range 200).all (fun i => bendT (1065347616 + i)) = true := by decide +kernel
set_option maxRecDepth 1000000 in
theorem bend_tab2 : (List.range 200).all (fun i => bendT (1065347816 + i)) = true := by decide +kernel
set_option maxRecDepth 1000000 in
theorem bend_tab3 : (List.range 200).all (fun i => bendT (1065348016 + i)) = true := by decide +kernel
set_option maxRecDepth 1000000 in
theorem bend_tab4 : (List.range 200).all (fun i => bendT (1065348216 + i)) = true := by decide +kernel
set_option maxRecDepth 1000000 in
theorem bend_tab5 : (List.range 200).all (fun i => bendT (1065348416 + i)) = true := by decide +kernel
set_option maxRecDepth 1000000 in
theorem bend_tab6 : (List.range 200).all (fun i => bendT (1065348616 + i)) = true := by decide +kernel
set_option maxRecDepth 1000000 in
theorem bend_tab7 : (List.range 200).all (fun i => bendT (1065348816 + i)) = true := by decide +kernel
set_option maxRecDepth 1000000 in
theorem bend_tab8 : (List.range 200).all (fun i => bendT (1065349016 + i)) = true := by decide +kernel
set_option maxRecDepth 1000000 in
theorem bend_tab9 : (List.range 200).all (fun i => bendT (1065349216 + i)) = true := by decide +kernel
set_option maxRecDepth 1000000 in
theorem bend_tab10 : (List.range 200).all (fun i => bendT (1065349416 + i)) = true := by decide +kernel
set_option maxRecDepth 1000000 in
theorem bend_tab11 : (List.range 200).all (fun i => bendT (1065349616 + i)) = true := by decide +kernel
set_option maxRecDepth 1000000 in
theorem bend_tab12 : (List.range 200).all (fun i => bendT (1065349816 + i)) = true := by decide +kernel
set_option maxRecDepth 1000000 in
theorem bend_tab13 : (List.range 200).all (fun i => bendT (1065350016 + i)) = true := by decide +kernel
set_option maxRecDepth 1000000 in
theorem bend_tab14 : (List.range 200).all (fun i => bendT (1065350216 + i)) = true := by decide +kernel
set_option maxRecDepth 1000000 in
theorem bend_tab15 : (List.range 200).all (fun i => bendT (1065350416 + i)) = true := by decide +kernel
set_option maxRecDepth 1000000 in
theorem bend_tab16 : (List.range 200).all (fun i => bendT (1065350616 + i)) = true := by decide +kernel
set_option maxRecDepth 1000000 in
theorem bend_tab17 : (List.range 200).all (fun i => bendT (1065350816 + i)) = true := by decide +kernel
set_option maxRecDepth 1000000 in
theorem bend_tab18 : (List.range 200).all (fun i => bendT (1065351016 + i)) = true := by decide +kernel
set_option maxRecDepth 1000000 in
theorem bend_tab19 : (List.range 200).all (fun i => bendT (1065351216 + i)) = true := by decide +kernel
set_option maxRecDepth 1000000 in
theorem bend_tab20 : (List.range 200).all (fun i => bendT (1065351416 + i)) = true := by decide +kernel
set_option maxRecDepth 1000000 in
theorem bend_tab21 : (List.range 200).all (fun i => bendT (1065351616 + i)) = true := by decide +kernel
set_option maxRecDepth 1000000 in
theorem bend_tab22 : (List.range 200).all (fun i => bendT (1065351816 + i)) = true := by decide +kernel
set_option maxRecDepth 1000000 in
theorem bend_tab23 : (List.range 200).all (fun i => bendT (1065352016 + i)) = true := by decide +kernel
set_option maxRecDepth 1000000 in
theorem bend_tab24 : (List.range 200).all (fun i => bendT (1065352216 + i)) = true := by decide +kernel
set_option maxRecDepth 1000000 in
theorem bend_tab25 : (List.range 200).all (fun i => bendT (1065352416 + i)) = true := by decide +kernel
set_option maxRecDepth 1000000 in
theorem bend_tab26 : (List.range 200).all (fun i => bendT (1065352616 + i)) = true := by decide +kernel
set_option maxRecDepth 1000000 in
theorem bend_tab27 : (List.range 200).all (fun i => bendT (1065352816 + i)) = true := by decide +kernel
set_option maxRecDepth 1000000 in
theorem bend_tab28 : (List.range 200).all (fun i => bendT (1065353016 + i)) = true := by decide +kernel
theorem bend_top {r : Nat} (h1 : 1065347416 ≤ r) (h2 : r < 1065353216) : bendT r = true := by
  obtain ⟨i, rfl⟩ : ∃ i, r = 1065347416 + i := ⟨r - 1065347416, by omega⟩
  obtain ⟨k, j, rfl, hj⟩ : ∃ k j, i = 200 * k + j ∧ j < 200 := ⟨i / 200, i % 200, by omega, by omega⟩
  have hk : k = 0 ∨ k = 1 ∨ k = 2 ∨ k = 3 ∨ k = 4 ∨ k = 5 ∨ k = 6 ∨ k = 7 ∨ k = 8 ∨ k = 9 ∨ k = 10 ∨ k = 11 ∨ k = 12 ∨ k = 13 ∨ k = 14 ∨ k = 15 ∨ k = 16 ∨ k = 17 ∨ k = 18 ∨ k = 19 ∨ k = 20 ∨ k = 21 ∨ k = 22 ∨ k = 23 ∨ k = 24 ∨ k = 25 ∨ k = 26 ∨ k = 27 ∨ k = 28 := by omega
  rcases hk with rfl | rfl | rfl | rfl | rfl | rfl | rfl | rfl | rfl | rfl | rfl | rfl | rfl | rfl | rfl | rfl | rfl | rfl | rfl | rfl | rfl | rfl | rfl | rfl | rfl | rfl | rfl | rfl | rfl
  · have := List.all_eq_true.1 bend_tab0 j (List.mem_range.2 hj); rw [show 1065347416 + (200 * 0 + j) = 1065347416 + j by omega]; exact this
  · have := List.all_eq_true.1 bend_tab1 j (List.mem_range.2 hj); rw [show 1065347416 + (200 * 1 + j) = 1065347616 + j by omega]; exact this
  · have := List.all_eq_true.1 bend_tab2 j (List.mem_range.2 hj); rw [show 1065347416 + (200 * 2 + j) = 1065347816 + j by omega]; exact this
  · have := List.all_eq_true.1 bend_tab3 j (List.mem_range.2 hj); rw [show 1065347416 + (200 * 3 + j) = 1065348016 + j by omega]; exact this
  · have := List.all_eq_true.1 bend_tab4 j (List.mem_range.2 hj); rw [show 1065347416 + (200 * 4 + j) = 1065348216 + j by omega]; exact this
  · have := List.all_eq_true.1 bend_tab5 j (List.mem_range.2 hj); rw [show 1065347416 + (200 * 5 + j) = 1065348416 + j by omega]; exact this
  · have := List.all_eq_true.1 bend_tab6 j (List.mem_range.2 hj); rw [show 1065347416 + (200 * 6 + j) = 1065348616 + j by omega]; exact this
  · have := List.all_eq_true.1 bend_tab7 j (List.mem_range.2 hj); rw [show 1065347416 + (200 * 7 + j) = 1065348816 + j by omega]; exact this
  · have := List.all_eq_true.1 bend_tab8 j (List.mem_range.2 hj); rw [show 1065347416 + (200 * 8 + j) = 1065349016 + j by omega]; exact this
  · have := List.all_eq_true.1 bend_tab9 j (List.mem_range.2 hj); rw [show 1065347416 + (200 * 9 + j) = 1065349216 + j by omega]; exact this
  · have := List.all_eq_true.1 bend_tab10 j (List.mem_range.2 hj); rw [show 1065347416 + (200 * 10 + j) = 1065349416 + j by omega]; exact this
  · have := List.all_eq_true.1 bend_tab11 j (List.mem_range.2 hj); rw [show 1065347416 + (200 * 11 + j) = 1065349616 + j by omega]; exact this
  · have := List.all_eq_true.1 bend_tab12 j (List.mem_range.2 hj); rw [show 1065347416 + (200 * 12 + j) = 1065349816 + j by omega]; exact this
  · have := List.all_eq_true.1 bend_tab13 j (List.mem_range.2 hj); rw [show 1065347416 + (200 * 13 + j) = 1065350016 + j by omega]; exact this
  · have := List.all_eq_true.1 bend_tab14 j (List.mem_range.2 hj); rw [show 1065347416 + (200 * 14 + j) = 1065350216 + j by omega]; exact this
  · have := List.all_eq_true.1 bend_tab15 j (List.mem_range.2 hj); rw [show 1065347416 + (200 * 15 + j) = 1065350416 + j by omega]; exact this
  · have := List.all_eq_true.1 bend_tab16 j (List.mem_range.2 hj); rw [show 1065347416 + (200 * 16 + j) = 1065350616 + j by omega]; exact this
  · have := List.all_eq_true.1 bend_tab17 j (List.mem_range.2 hj); rw [show 1065347416 + (200 * 17 + j) = 1065350816 + j by omega]; exact this
  · have := List.all_eq_true.1 bend_tab18 j (List.mem_range.2 hj); rw [show 1065347416 + (200 * 18 + j) = 1065351016 + j by omega]; exact this
  · have := List.all_eq_true.1 bend_tab19 j (List.mem_range.2 hj); rw [show 1065347416 + (200 * 19 + j) = 1065351216 + j by omega]; exact this
  · have := List.all_eq_true.1 bend_tab20 j (List.mem_range.2 hj); rw [show 1065347416 + (200 * 20 + j) = 1065351416 + j by omega]; exact this
  · have := List.all_eq_true.1 bend_tab21 j (List.mem_range.2 hj); rw [show 1065347416 + (200 * 21 + j) = 1065351616 + j by omega]; exact this
  · have := List.all_eq_true.1 bend_tab22 j (List.mem_range.2 hj); rw [show 1065347416 + (200 * 22 + j) = 1065351816 + j by omega]; exact this
  · have := List.all_eq_true.1 bend_tab23 j (List.mem_range.2 hj); rw [show 1065347416 + (200 * 23 + j) = 1065352016 + j by omega]; exact this
  · have := List.all_eq_true.1 bend_tab24 j (List.mem_range.2 hj); rw [show 1065347416 + (200 * 24 + j) = 1065352216 + j by omega]; exact this
  · have := List.all_eq_true.1 bend_tab25 j (List.mem_range.2 hj); rw [show 1065347416 + (200 * 25 + j) = 1065352416 + j by omega]; exact this
  · have := List.all_eq_true.1 bend_tab26 j (List.mem_range.2 hj); rw [show 1065347416 + (200 * 26 + j) = 1065352616 + j by omega]; exact this
  · have := List.all_eq_true.1 bend_tab27 j (List.mem_range.2 hj); rw [show 1065347416 + (200 * 27 + j) = 1065352816 + j by omega]; exact this
  · have := List.all_eq_true.1 bend_tab28 j (List.mem_range.2 hj); rw [show 1065347416 + (200 * 28 + j) = 1065353016 + j by omega]; exact this
theorem bend_low {x : Nat} (h2 : rung .f32 x < 1056964608) : ∃ y, bendR (some x) = some y ∧ rung .f32 y ≤ 1065353216 ∧ sgn .f32 y = sgn .f32 x := by
  obtain ⟨E, hE⟩ : ∃ E : Nat, 2 ^ 124 = E := ⟨_, rfl⟩
  have fx : Fl.Fin .f32 x := by show rung .f32 x < _; rw [ir_f32]; omega
  have f1 : (1065353216 : Nat) < FloatKind.f32.format.infRung := by decide
  have f05 : Fl.Fin .f32 1056964608 := by show rung .f32 1056964608 < _; decide
  have f15 : Fl.Fin .f32 1069547520 := by show rung .f32 1069547520 < _; decide
  have eP := p149 E hE
  have e1 := zv10 E hE
  have z05 := zv05 E hE
  have z15 := zv15 E hE
  have zx : zv .f32 (rung .f32 x) ≤ 16777216 * E := by
    rw [← z05]; exact (zv_le .f32).2 (Nat.le_trans (Nat.le_of_lt h2) (by decide))
  obtain ⟨a, ha, sa, la, _⟩ := mul_val .f32 fx fx 149 (by decide)
  rw [eP] at la
  have ra : rung .f32 a ≤ 1065353216 := la _ f1 (by rw [e1]; exact Nat.mul_le_mul (by omega) (by omega))
  have fa : Fl.Fin .f32 a := Nat.lt_of_le_of_lt ra f1
  have za2 : zv .f32 (rung .f32 a) ≤ 33554432 * E := by rw [← e1]; exact (zv_le .f32).2 ra
  obtain ⟨h, hh, sh, lh, _⟩ := mul_val .f32 f05 fa 149 (by decide)
  rw [z05, eP] at lh
  have rh : rung .f32 h ≤ 1065353216 := lh _ f1 (by rw [e1]; exact Nat.mul_le_mul (by omega) za2)
  have fh : Fl.Fin .f32 h := Nat.lt_of_le_of_lt rh f1
  have zh2 : zv .f32 (rung .f32 h) ≤ 33554432 * E := by rw [← e1]; exact (zv_le .f32).2 rh
  have sh2 : sgn .f32 h = false := by rw [sh, sa, show sgn .f32 1056964608 = false from by decide]; cases sgn .f32 x <;> rfl
  obtain ⟨c, hc, Rc, _⟩ := sub_val .f32 f15 fh
  have v15 : sv .f32 1069547520 = ((50331648 * E : Nat) : Int) := by
    unfold sv sg; rw [show sgn .f32 1069547520 = false from by decide, z15]; rfl
  have vh : sv .f32 h = (zv .f32 (rung .f32 h) : Int) := by unfold sv sg; rw [sh2]; rfl
  rw [v15, vh] at Rc
  have hEp : 0 < E := by rw [← hE]; exact Nat.two_pow_pos _
  have rc : rung .f32 c ≤ rung .f32 1069547520 := Rc.le _ f15 (by rw [z15]; omega)
  have zc : zv .f32 (rung .f32 c) ≤ 50331648 * E := by rw [← z15]; exact (zv_le .f32).2 rc
  have sc : sgn .f32 c = false := by rw [Rc.sgn (by omega)]; exact decide_eq_false (by omega)
  have fc : Fl.Fin .f32 c := Nat.lt_of_le_of_lt rc f15
  obtain ⟨y, hy, sy, ly, _⟩ := mul_val .f32 fx fc 149 (by decide)
  rw [eP] at ly
  have ry : rung .f32 y ≤ 1065353216 := ly _ f1 (by
    rw [e1]
    refine Nat.le_trans (Nat.mul_le_mul zx zc) ?_
    have e2 : 16777216 * E * (50331648 * E) = 844424930131968 * (E * E) := by grind
    have e3 : 33554432 * E * (33554432 * E) = 1125899906842624 * (E * E) := by grind
    rw [e2, e3]
    exact Nat.mul_le_mul_right _ (by decide))
  refine ⟨y, ?_, ry, by rw [sy, sc]; cases sgn .f32 x <;> rfl⟩
  unfold bendR
  show opO .mul .f32 (some x) (opO .sub .f32 (some 1069547520) (opO .mul .f32 (some 1056964608) (opO .mul .f32 (some x) (some x)))) = some y
  rw [show opO .mul .f32 (some x) (some x) = some a from ha, show opO .mul .f32 (some 1056964608) (some a) = some h from hh, show opO .sub .f32 (some 1069547520) (some h) = some c from hc]
  exact hy
end Go.Proofs.Ytfgebggfoboalaa

/- Bending is odd. -/
set_option linter.unusedVariables false
set_option linter.unusedSimpArgs false
namespace Go.Proofs.Ytfgebggfoboalaa
open Fl Go.RowKit Ieee
/-- products of numbers with the same sizes have the same size -/
theorem mul_rung (k : FloatKind) {x y x' y' z z' : Nat} (hx : Fl.Fin k x) (hy : Fl.Fin k y) (hx' : Fl.Fin k x') (hy' : Fl.Fin k y') (ex : rung k x = rung k x') (ey : rung k y = rung k y')
    (h : floatBits .mul k x y = some z) (h' : floatBits .mul k x' y' = some z') : rung k z = rung k z' := by
  obtain ⟨m, e, hm, hz⟩ := read_fin k hx
  obtain ⟨n, f, hn, hz2⟩ := read_fin k hy
  obtain ⟨m', e', hm', hz'⟩ := read_fin k hx'
  obtain ⟨n', f', hn', hz2'⟩ := read_fin k hy'
  simp only [floatBits, Format.mul, hm, hn, Datum.product, Option.map_some] at h
  simp only [floatBits, Format.mul, hm', hn', Datum.product, Option.map_some] at h'
  injection h with h; injection h' with h'
  rw [← h, ← h']
  have hprod : (m * n) * 2 ^ (e + f) = (m' * n') * 2 ^ (e' + f') := by
    have a1 : (m * n) * 2 ^ (e + f) = zv k (rung k x) * zv k (rung k y) := by rw [hz, hz2, Nat.pow_add]; ac_rfl
    have a2 : (m' * n') * 2 ^ (e' + f') = zv k (rung k x') * zv k (rung k y') := by rw [hz', hz2', Nat.pow_add]; ac_rfl
    rw [a1, a2, ex, ey]
  have lp := lp_neg k
  refine Nat.le_antisymm (nearest_mono k _ _ (b := k.format.leastPlace + k.format.leastPlace) (by omega) (by omega) (by omega) ?_) (nearest_mono k _ _ (b := k.format.leastPlace + k.format.leastPlace) (by omega) (by omega) (by omega) ?_)
  · rw [show (k.format.leastPlace + (e : Int) + (k.format.leastPlace + (f : Int)) - (k.format.leastPlace + k.format.leastPlace)).toNat = e + f by omega, show (k.format.leastPlace + (e' : Int) + (k.format.leastPlace + (f' : Int)) - (k.format.leastPlace + k.format.leastPlace)).toNat = e' + f' by omega, hprod]
    exact Nat.le_refl _
  · rw [show (k.format.leastPlace + (e : Int) + (k.format.leastPlace + (f : Int)) - (k.format.leastPlace + k.format.leastPlace)).toNat = e + f by omega, show (k.format.leastPlace + (e' : Int) + (k.format.leastPlace + (f' : Int)) - (k.format.leastPlace + k.format.leastPlace)).toNat = e' + f' by omega, hprod]
    exact Nat.le_refl _
theorem word_eq {a b : Nat} (ha : a < 4294967296) (hb : b < 4294967296) (hr : rung .f32 a = rung .f32 b) (hs : sgn .f32 a = sgn .f32 b) : a = b := by
  have h1 := word_of .f32 (b := a) ha
  have h2 := word_of .f32 (b := b) hb
  rw [← h1, ← h2, hr, hs]
/-- the bend of the opposite number is the opposite -/
theorem bend_odd {x x' y : Nat} (lx : x < 4294967296) (lx' : x' < 4294967296) (fx : Fl.Fin .f32 x) (er : rung .f32 x' = rung .f32 x) (es : sgn .f32 x' = !(sgn .f32 x)) (h1 : rung .f32 x < 1065353216) (h : bendR (some x) = some y) :
    ∃ y', bendR (some x') = some y' ∧ rung .f32 y' = rung .f32 y ∧ sgn .f32 y' = !(sgn .f32 y) := by
  have fx' : Fl.Fin .f32 x' := by show rung .f32 x' < _; rw [er]; exact fx
  obtain ⟨a, ha, sa, la, _⟩ := mul_val .f32 fx fx 149 (by decide)
  obtain ⟨a', ha', sa', _⟩ := mul_val .f32 fx' fx' 149 (by decide)
  have ea : a' = a := by
    refine word_eq (opw_lt rfl lx' lx' fx' fx' ha') (opw_lt rfl lx lx fx fx ha) (mul_rung .f32 fx' fx' fx fx er er ha' ha) ?_
    rw [sa, sa']; cases sgn .f32 x <;> cases sgn .f32 x' <;> rfl
  subst ea
  unfold bendR at h ⊢
  have e1 : mu (some x) (some x) = some a' := ha
  have e2 : mu (some x') (some x') = some a' := ha'
  rw [e1] at h
  rw [e2]
  cases hc : su (some 1069547520) (mu (some 1056964608) (some a')) with
  | none => rw [hc] at h; cases h
  | some c =>
    rw [hc] at h
    have f1 : (1065353216 : Nat) < FloatKind.f32.format.infRung := by decide
    have e := zv_one
    have ra : rung .f32 a' ≤ 1065353216 := la _ f1 (by
      rw [e]
      have hz : zv .f32 (rung .f32 x) ≤ 2 ^ 149 := by rw [← e]; exact (zv_le .f32).2 (Nat.le_of_lt h1)
      exact Nat.mul_le_mul hz hz)
    have fa : Fl.Fin .f32 a' := Nat.lt_of_le_of_lt ra f1
    have f05 : Fl.Fin .f32 1056964608 := by show rung .f32 1056964608 < _; decide
    have f15 : Fl.Fin .f32 1069547520 := by show rung .f32 1069547520 < _; decide
    obtain ⟨hh, hhe, sh, lh, _⟩ := mul_val .f32 f05 fa 149 (by decide)
    have rh : rung .f32 hh ≤ 1065353216 := lh _ f1 (by
      rw [e]
      have hz : zv .f32 (rung .f32 a') ≤ 2 ^ 149 := by rw [← e]; exact (zv_le .f32).2 ra
      have hz2 : zv .f32 (rung .f32 1056964608) ≤ 2 ^ 149 := by rw [← e]; exact (zv_le .f32).2 (by decide)
      exact Nat.mul_le_mul hz2 hz)
    have fh : Fl.Fin .f32 hh := Nat.lt_of_le_of_lt rh f1
    rw [show mu (some 1056964608) (some a') = some hh from hhe] at hc
    obtain ⟨c2, hc2, Rc, _⟩ := sub_val .f32 f15 fh
    rw [show su (some 1069547520) (some hh) = some c2 from hc2] at hc
    injection hc with hc
    subst hc
    have v15 : sv .f32 1069547520 = (zv .f32 (rung .f32 1069547520) : Int) := by unfold sv sg; rw [show sgn .f32 1069547520 = false from by decide]; rfl
    have sh2 : sgn .f32 hh = false := by rw [sh, sa, show sgn .f32 1056964608 = false from by decide]; cases sgn .f32 x <;> rfl
    have vh : sv .f32 hh = (zv .f32 (rung .f32 hh) : Int) := by unfold sv sg; rw [sh2]; rfl
    have hle : zv .f32 (rung .f32 hh) ≤ zv .f32 (rung .f32 1069547520) := (zv_le .f32).2 (Nat.le_trans rh (by decide))
    have fc : Fl.Fin .f32 c2 := Nat.lt_of_le_of_lt (Rc.le _ f15 (by rw [v15, vh]; omega)) f15
    obtain ⟨y2, hy2, sy2, _⟩ := mul_val .f32 fx fc 149 (by decide)
    obtain ⟨y', hy', sy', _⟩ := mul_val .f32 fx' fc 149 (by decide)
    rw [show mu (some x) (some c2) = some y2 from hy2] at h
    injection h with h
    subst h
    exact ⟨y', hy', mul_rung .f32 fx' fc fx fc er rfl hy' hy2, by rw [sy', sy2, es]; cases sgn .f32 x <;> cases sgn .f32 c2 <;> rfl⟩
/-- bends in eighths do not fall -/
theorem bend_eighths : ∀ i : Nat, i < 16 → gtO (bendO (opO .quo .f32 (some (fI ((i : Int) - 8))) (some 1090519040))) (bendO (opO .quo .f32 (some (fI ((i : Int) - 7))) (some 1090519040))) = false := by decide +kernel
/-- a bend between -1 and 1 is at most 1 in size -/
theorem bend_in {x : Nat} (lx : x < 4294967296) (h : rung .f32 x < 1065353216) : ∃ y, bendR (some x) = some y ∧ rung .f32 y ≤ 1065353216 ∧ sgn .f32 y = sgn .f32 x := by
  by_cases h1 : rung .f32 x < 1056964608
  · exact bend_low h1
  · by_cases h2 : rung .f32 x + 5800 ≤ 1065353216
    · exact bend_mid (by omega) h2
    · have ht := bend_top (r := rung .f32 x) (by omega) h
      have hr : rung .f32 x = x % 2147483648 := rung32 x
      have rr : rung .f32 (rung .f32 x) = rung .f32 x := by rw [rung32, hr]; omega
      have sr : sgn .f32 (rung .f32 x) = false := by
        unfold sgn
        have hs : FloatKind.f32.format.signWeight = 2147483648 := by decide
        rw [hs, show rung .f32 x / 2147483648 = 0 by rw [hr]; omega]; rfl
      unfold bendT at ht
      cases hb : bendR (some (rung .f32 x)) with
      | none => rw [hb] at ht; exact absurd ht Bool.false_ne_true
      | some y =>
        rw [hb] at ht
        simp only [Bool.and_eq_true, decide_eq_true_eq] at ht
        cases sx : sgn .f32 x
        · have ex : x = rung .f32 x := word_eq lx (by rw [hr]; omega) rr.symm (by rw [sr, sx])
          rw [ex, hb]
          exact ⟨y, rfl, ht.1, by rw [ht.2]⟩
        · have fr : Fl.Fin .f32 (rung .f32 x) := by show rung .f32 (rung .f32 x) < _; rw [rr, ir_f32]; omega
          obtain ⟨y', h3, h4, h5⟩ := bend_odd (x := rung .f32 x) (x' := x) (by rw [hr]; omega) lx fr rr.symm (by rw [sr, sx]; rfl) (by rw [rr]; exact h) hb
          exact ⟨y', h3, by rw [h4]; exact ht.1, by rw [h5, ht.2]; rfl⟩
end Go.Proofs.Ytfgebggfoboalaa

/- What is said of bent samples, as orders of words. -/
set_option linter.unusedVariables false
set_option linter.unusedSimpArgs false
namespace Go.Proofs.Ytfgebggfoboalaa
open Fl Go.RowKit Ieee
theorem geO_key {x c : Nat} (hx : ab .f32 x = some x) (hc : ab .f32 c = some c) : geO (some x) (some c) = decide (key .f32 c ≤ key .f32 x) := by
  unfold geO gtO eqO
  show (FloatKind.f32.format.order x c == some .gt || FloatKind.f32.format.order x c == some .eq) = _
  rw [order_key .f32 hx hc, cmp_def]
  by_cases h1 : key .f32 x < key .f32 c
  · rw [if_pos h1, decide_eq_false (by omega)]; rfl
  · rw [if_neg h1, decide_eq_true (by omega)]
    split <;> rfl
theorem leO_key {x c : Nat} (hx : ab .f32 x = some x) (hc : ab .f32 c = some c) : leO (some x) (some c) = decide (key .f32 x ≤ key .f32 c) := by
  unfold leO ltO eqO
  show (FloatKind.f32.format.order x c == some .lt || FloatKind.f32.format.order x c == some .eq) = _
  rw [order_key .f32 hx hc, cmp_def]
  by_cases h1 : key .f32 x < key .f32 c
  · rw [if_pos h1, decide_eq_true (by omega)]; rfl
  · rw [if_neg h1]
    by_cases h2 : key .f32 x = key .f32 c
    · rw [if_pos h2, decide_eq_true (by omega)]; rfl
    · rw [if_neg h2, decide_eq_false (by omega)]; rfl
theorem neg_rung {x : Nat} : rung .f32 (Op.negFloat .f32 x) = rung .f32 x := neg_mod .f32 x
theorem neg_sgn {x : Nat} (hx : x < 4294967296) : sgn .f32 (Op.negFloat .f32 x) = !(sgn .f32 x) := by
  have hs : FloatKind.f32.format.signWeight = 2147483648 := by decide
  unfold sgn
  rw [hs, neg32 x hx]
  split
  · rw [show (x + 2147483648) / 2147483648 = 1 by omega, show x / 2147483648 = 0 by omega]; rfl
  · rw [show (x - 2147483648) / 2147483648 = 0 by omega, show x / 2147483648 = 1 by omega]; rfl
theorem bend_cases {x : Nat} (lx : x < 4294967296) (hx : ab .f32 x = some x) :
    (rung .f32 x < 1065353216 ∧ bendO (some x) = bendR (some x)) ∨ (1065353216 ≤ rung .f32 x ∧ sgn .f32 x = false ∧ bendO (some x) = some 1065353216) ∨ (1065353216 ≤ rung .f32 x ∧ sgn .f32 x = true ∧ bendO (some x) = some 3212836864) := by
  have k1 : key .f32 1065353216 = 1065353216 := by decide
  have k2 : key .f32 3212836864 = -1065353216 := by decide
  unfold bendO
  rw [geO_key hx (by decide), leO_key hx (by decide), k1, k2]
  have kx : key .f32 x = sg (sgn .f32 x) (rung .f32 x) := rfl
  rw [kx]
  unfold sg
  cases sgn .f32 x
  · rw [if_neg Bool.false_ne_true]
    by_cases h : rung .f32 x < 1065353216
    · left
      refine ⟨h, ?_⟩
      rw [decide_eq_false (by omega), decide_eq_false (by omega)]; rfl
    · right; left
      refine ⟨by omega, rfl, ?_⟩
      rw [decide_eq_true (by omega)]; rfl
  · rw [if_pos rfl]
    by_cases h : rung .f32 x < 1065353216
    · left
      refine ⟨h, ?_⟩
      rw [decide_eq_false (by omega), decide_eq_false (by omega)]; rfl
    · right; right
      refine ⟨by omega, rfl, ?_⟩
      rw [decide_eq_false (by omega), decide_eq_true (by omega)]; rfl
theorem neg_ab {x : Nat} (hx : ab .f32 x = some x) : ab .f32 (Op.negFloat .f32 x) = some (Op.negFloat .f32 x) := by rw [ab_neg, hx]; rfl
theorem bend_all {x : Nat} (lx : x < 4294967296) (hx : ab .f32 x = some x) :
    ∃ y y', bendO (some x) = some y ∧ bendO (some (Op.negFloat .f32 x)) = some y' ∧ rung .f32 y ≤ 1065353216 ∧ rung .f32 y' = rung .f32 y ∧ sgn .f32 y' = !(sgn .f32 y) := by
  have lx' : Op.negFloat .f32 x < 4294967296 := neg_lt .f32 lx
  have er := neg_rung (x := x)
  have es := neg_sgn lx
  rcases bend_cases lx hx with ⟨h1, e1⟩ | ⟨h1, h2, e1⟩ | ⟨h1, h2, e1⟩ <;> rcases bend_cases lx' (neg_ab hx) with ⟨h3, e2⟩ | ⟨h3, h4, e2⟩ | ⟨h3, h4, e2⟩
  · obtain ⟨y, hy, ry, sy⟩ := bend_in lx h1
    have fx : Fl.Fin .f32 x := by show rung .f32 x < _; rw [ir_f32]; omega
    obtain ⟨y', hy', ry', sy'⟩ := bend_odd lx lx' fx er es h1 hy
    exact ⟨y, y', e1.trans hy, e2.trans hy', ry, ry', sy'⟩
  · omega
  · omega
  · omega
  · rw [es, h2] at h4; cases h4
  · exact ⟨_, _, e1, e2, by decide, by decide, by decide⟩
  · omega
  · exact ⟨_, _, e1, e2, by decide, by decide, by decide⟩
  · rw [es, h2] at h4; cases h4
/-- the orders that the law asks for -/
theorem bent_some {x y z : Nat} (lx : x < 4294967296) (hx : ab .f32 x = some x) (hy : Hid (Fv .f32 y (bendO (ab .f32 x)))) (hz : Hid (Fv .f32 z (bendO (ab .f32 (Op.negFloat .f32 x))))) :
    FloatKind.f32.format.order x x = some .eq ∧ (FloatKind.f32.format.order y 1065353216 == some .lt || FloatKind.f32.format.order y 1065353216 == some .eq) = true ∧
    (FloatKind.f32.format.order y 3212836864 == some .gt || FloatKind.f32.format.order y 3212836864 == some .eq) = true ∧ FloatKind.f32.format.order y (Op.negFloat .f32 z) = some .eq := by
  obtain ⟨q, q', e1, e2, r1, r2, s1⟩ := bend_all lx hx
  rw [hx, e1] at hy
  rw [neg_ab hx, e2] at hz
  have h1 := ab_some hy.out.2
  have h2 := ab_some hz.out.2
  subst h1; subst h2
  have ay := hy.out.2
  have az := hz.out.2
  have k1 : key .f32 1065353216 = 1065353216 := by decide
  have k2 : key .f32 3212836864 = -1065353216 := by decide
  have ky : key .f32 q = sg (sgn .f32 q) (rung .f32 q) := rfl
  have hle : key .f32 q ≤ 1065353216 ∧ -1065353216 ≤ key .f32 q := by
    rw [ky]; unfold sg; cases sgn .f32 q
    · rw [if_neg Bool.false_ne_true]; omega
    · rw [if_pos rfl]; omega
  refine ⟨?_, ?_, ?_, ?_⟩
  · rw [order_key .f32 hx hx, cmp_def, if_neg (by omega), if_pos rfl]
  · have := leO_key ay (c := 1065353216) (by decide)
    unfold leO ltO eqO at this
    refine Eq.trans this ?_
    rw [k1]; exact decide_eq_true hle.1
  · have := geO_key ay (c := 3212836864) (by decide)
    unfold geO gtO eqO at this
    refine Eq.trans this ?_
    rw [k2]; exact decide_eq_true hle.2
  · rw [order_key .f32 ay (neg_ab az)]
    have : key .f32 (Op.negFloat .f32 q') = key .f32 q := by
      unfold key
      rw [neg_rung, neg_sgn hz.out.1, r2, s1, Bool.not_not]
    rw [this, cmp_def, if_neg (by omega), if_pos rfl]
theorem bent_none {x y : Nat} (hx : ab .f32 x = none) (hy : Hid (Fv .f32 y (bendO (ab .f32 x)))) : FloatKind.f32.format.order x x = none ∧ FloatKind.f32.format.order y y = none := by
  have e1 : bendO none = none := by decide
  rw [hx, e1] at hy
  rw [order_ab, order_ab, hx, hy.out.2]
  exact ⟨rfl, rfl⟩
end Go.Proofs.Ytfgebggfoboalaa

/- Meters: held peaks, both sides. -/
set_option linter.unusedVariables false
set_option linter.unusedSimpArgs false
namespace Go.Proofs.Ytfgebggfoboalaa
open Fl Go.RowKit
/-- a size, where a not-a-number counts as nothing -/
def zsO (x : O) : O := if x.isNone then some 0 else sizeO x
def holdH (X : Nat → O) (F : O) (H : O) : Nat → O
  | 0 => H
  | k + 1 => if gtO (zsO (X k)) (mu (holdH X F H k) F) then zsO (X k) else mu (holdH X F H k) F
theorem sizeO_none {x : O} : (sizeO x).isNone = x.isNone := by unfold sizeO; cases x <;> rfl
theorem zs_fv {b : Nat} {X : O} (h : Hid (Fv .f32 b X)) : Hid (Fv .f32 (if X.isNone then 0 else sizeS b) (zsO X)) := by
  unfold zsO
  cases e : X.isNone
  · exact sizeS_fv h
  · exact fv0
theorem self_size {b : Nat} (h : Hid (Fv .f32 b (ab .f32 b))) : FloatKind.f32.format.order (sizeS b) (sizeS b) = if (ab .f32 b).isNone then none else some .eq := by
  rw [order_self, (sizeS_fv h).out.2]; cases ab .f32 b <;> rfl
theorem cell_own {W : World} {a : Addr} {u v : Value} (h : W.cell? a = some u) : (W.setCell a v).cell? a = some v := by simp [go_sem, h]
/-- a box of one cell -/
def B1 (W : World) (g : Nat) (v : Value) (T : TypeId) : Prop := W.heap[g]? = some (.cells #[v] T (0, 0))
theorem B1.at_ {W : World} {g : Nat} {v : Value} {T : TypeId} (h : B1 W g v T) : W.cell? ⟨g, 0, none⟩ = some v := by unfold B1 at h; simp [World.cell?, h]
theorem B1.free {W : World} {g o : Nat} {v : Value} {T : TypeId} (h : B1 W g v T) : W.frozen? ⟨g, o, none⟩ = false := by unfold B1 at h; simp [World.frozen?, h]
theorem B1.lt {W : World} {g : Nat} {v : Value} {T : TypeId} (h : B1 W g v T) : g < W.heap.size := (Array.getElem?_eq_some_iff.1 h).1
theorem B1.set {W : World} {g : Nat} {u v : Value} {T : TypeId} (h : B1 W g u T) : B1 (W.setCell ⟨g, 0, none⟩ v) g v T := by unfold B1 at h ⊢; simp [World.setCell, Array.getElem?_modify, h]
theorem B1.of {W V : World} {g : Nat} {u : Value} {T : TypeId} (h : B1 W g u T) (e : V.heap[g]? = W.heap[g]?) : B1 V g u T := e.trans h
theorem B1.drewN {W : World} {g : Nat} {u : Value} {T : TypeId} (h : B1 W g u T) (n : Nat) : B1 (W.drewN n) g u T := h
theorem B1.new (W : World) (v : Value) (T : TypeId) : B1 (W.alloc (.cells #[v] T)) W.heap.size v T := Go.Deep.blk_alloc_new _ _
end Go.Proofs.Ytfgebggfoboalaa

/- Meters: the power of differences, both sides. -/
set_option linter.unusedVariables false
set_option linter.unusedSimpArgs false
namespace Go.Proofs.Ytfgebggfoboalaa
open Fl Go.RowKit
/-- the dot of values with themselves -/
def dotY (X : Nat → O) : Nat → O
  | 0 => some 0
  | k + 1 => ad (dotY X k) (mu (X k) (X k))
theorem dotO_dotY {xs : List Nat} {X : Nat → O} : ∀ {n : Nat}, (∀ k, k < n → ab .f32 (wd xs k) = X k) → dotO xs xs n = dotY X n
  | 0, _ => rfl
  | n + 1, h => by
    show opO .add .f32 (dotO xs xs n) (opO .mul .f32 (ab .f32 (wd xs n)) (ab .f32 (wd xs n))) = ad (dotY X n) (mu (X n) (X n))
    rw [dotO_dotY (n := n) fun k hk => h k (by omega), h n (by omega)]
def difY (X : Nat → O) (lag k : Nat) : O := su (X k) (X (k + lag))
def lagY (X : Nat → O) (lag count : Nat) : O := dotY (difY X lag) count
theorem lag_in {count lag : Int} {n : Nat} (h1 : inB count 1 n = true) (h2 : inB lag 0 (n - count) = true) : ∃ c l : Nat, count = c ∧ lag = l ∧ 1 ≤ c ∧ c + l ≤ n := by
  simp only [inB, Bool.and_eq_true, decide_eq_true_eq] at h1 h2
  exact ⟨count.toNat, lag.toNat, by omega, by omega, by omega, by omega⟩
def okLag (n : Nat) (lag count : Int) : Bool := decide (n ≤ 256) && inB count 1 n && inB lag 0 (n - count)
end Go.Proofs.Ytfgebggfoboalaa

/- Meters: the power of differences, the program. -/
set_option linter.unusedVariables false
set_option linter.unusedSimpArgs false
namespace Go.Proofs.Ytfgebggfoboalaa
open Fl Go.RowKit
theorem implPower_any (A : Option Addr) (n c : Nat) (xs : List Nat) (w : World) (B : Nat) (h : Fs w B A n xs) (hn : n ≤ 256) :
    Calls Try.prog 30 #[.slice A n c] w (RetF .f32 (dotO xs xs n) w) := by
  have HD := Lib.hid (fun v (s : Fs v B A n xs) => implDot_any A n c xs A n c xs v B s s (by omega) (by omega))
  rw [if_pos ⟨hn, rfl⟩, decide_eq_true (show n ≤ 256 ∧ n = n from ⟨hn, rfl⟩)] at HD
  have H := Lib.hid h
  clear h
  go_enter Try.func30, Try.ntmps30
  go_wp2_with fail
  refine (HD.out _ H.out).mono ?_
  rintro e w' ⟨r1, m1, rfl, hv, rfl⟩
  have V1 : Hid (Fv .f32 r1 (dotO xs xs n)) := Lib.hid hv
  clear hv
  go_wp2
  go_ret
  exact ⟨r1, m1, rfl, V1.out, rfl⟩
theorem implPart_b (x : Int) (b : Bool) (w : World) (h : inB x 1 256 = b) :
    Calls Try.prog 33 #[.int .i64 x] w fun e w' => e = .returned (.bool b) ∧ w.Since w.heap.size w' := by
  go_enter Try.func33, Try.ntmps33
  go_wp2_with (go_at_call 50; refine (allow_any _ _ _ _).mono ?_; rintro e w1 ⟨rfl, hs⟩; rw [h])
  go_ret
  exact ⟨rfl, hs⟩
theorem okLag_impl (n : Nat) (lag count : Int) : okLag n lag count = (decide (n ≤ 256) && inB count 1 256 && inB lag 0 (n - count)) := by
  unfold okLag inB
  rw [Bool.eq_iff_iff]
  simp only [Bool.and_eq_true, decide_eq_true_eq]
  omega
end Go.Proofs.Ytfgebggfoboalaa

/- Meters: two channels: how alike, and which is louder. -/
set_option linter.unusedVariables false
set_option linter.unusedSimpArgs false
namespace Go.Proofs.Ytfgebggfoboalaa
open Fl Go.RowKit
def okTwo (n m : Nat) : Bool := decide (n ≤ 256) && decide (0 < n) && decide (n = m)
theorem chanClos_any (C : Option Addr) (m d n gb : Nat) (b : Bool) (W : World) (h : decide (m = n) = b) (hc : W.cell? ⟨gb, 0, none⟩ = some (.int .i64 (n : Int))) :
    Calls Try.prog 46 #[.slice C m d, .pointer (some ⟨gb, 0, none⟩)] W fun e w' => e = .returned (.bool b) ∧ W = w' := by
  subst h
  go_enter Try.func46, Try.ntmps46
  go_wp2
  go_ret
  exact ⟨ret_bool (by rw [Bool.eq_iff_iff]; simp; try omega), rfl⟩
theorem allTwo_any (p gb : Nat) (A C : Option Addr) (n c m d : Nat) (b : Bool) (W : World) (h : decide (m = n) = b) (hb : W.cell? ⟨gb, 0, none⟩ = some (.int .i64 (n : Int))) (h0 : W.cell? ⟨p, 0, none⟩ = some (.slice A n c)) (h1 : W.cell? ⟨p, 1, none⟩ = some (.slice C m d)) :
    Calls Try.prog 47 #[.slice (some ⟨p, 0, none⟩) 2 2, .func (.func 46) #[] #[.pointer (some ⟨gb, 0, none⟩)]] W fun e w' => e = .returned (.bool b) ∧ W = w' := by
  go_enter Try.func47, Try.ntmps47
  go_wp2
  go_loopw [9] (fun i wr => ∃ k : Nat, k ≤ 2 ∧ i = .int .i64 k ∧ (k = 2 → b = true) ∧ W = wr) (fun i _ => 2 - (intOf i).toNat)
  case atStart => exact ⟨0, by omega, rfl, fun h => by omega, rfl⟩
  case round =>
    obtain ⟨k, hk, rfl, hz, rfl⟩ := hrel
    obtain rfl | rfl | rfl : k = 0 ∨ k = 1 ∨ k = 2 := by omega
    · go_wp2_with (go_at_call 46; refine (chanClos_any A n c n gb true _ (decide_eq_true rfl) hb).mono ?_; rintro e w2 ⟨rfl, rfl⟩)
      go_roundw
      case rel => exact ⟨1, by omega, rfl, fun h => by omega, trivial⟩
      case measure => simp [intOf]
    · cases b
      · go_wp2_with (go_at_call 46; refine (chanClos_any C m d n gb false _ h hb).mono ?_; rintro e w2 ⟨rfl, rfl⟩)
        go_ret
        exact ⟨rfl, rfl⟩
      · go_wp2_with (go_at_call 46; refine (chanClos_any C m d n gb true _ h hb).mono ?_; rintro e w2 ⟨rfl, rfl⟩)
        go_roundw
        case rel => exact ⟨2, by omega, rfl, fun h => trivial, trivial⟩
        case measure => simp [intOf]
    · have hb2 := hz rfl
      subst hb2
      go_wp2
      go_ret
      exact ⟨rfl, rfl⟩
set_option maxHeartbeats 4000000 in
set_option maxRecDepth 100000 in
theorem implTwo_b (p : Nat) (A C : Option Addr) (n c m d : Nat) (b : Bool) (W : World) (hp : p < W.heap.size) (h : okTwo n m = b) (h0 : W.cell? ⟨p, 0, none⟩ = some (.slice A n c)) (h1 : W.cell? ⟨p, 1, none⟩ = some (.slice C m d)) (hn : n ≤ 1048576) :
    Calls Try.prog 29 #[.slice (some ⟨p, 0, none⟩) 2 2] W fun e w' => e = .returned (.bool b) ∧ W.Since W.heap.size w' := by
  subst h
  have s1 : W.Since W.heap.size (W.alloc (.cells #[.int .i64 (n : Int)] 3)) := (World.Since.refl _ _).alloc (Nat.le_refl _) _
  cases h5 : inB n 1 256
  · go_enter Try.func29, Try.ntmps29
    go_wp2_with (go_at_call 33; refine (implPart_b _ _ _ h5).mono ?_; rintro e w1 ⟨rfl, hs⟩)
    go_ret
    exact ⟨ret_bool (by unfold okTwo; simp only [inB] at h5; rw [Bool.eq_iff_iff] at h5 ⊢; simp at h5 ⊢; omega), s1.trans (since_mono hs s1.size)⟩
  · go_enter Try.func29, Try.ntmps29
    go_wp2_with fail
    refine (implPart_b _ _ _ h5).mono ?_
    rintro e w1 ⟨rfl, hs⟩
    have c1 : w1.cell? ⟨W.heap.size, 0, none⟩ = some (.int .i64 (n : Int)) := (hs.cell (a := ⟨W.heap.size, 0, none⟩) (by simp)).trans (by simp [go_sem])
    have s2 := s1.trans (since_mono hs s1.size)
    have d0 := (s2.cell (a := ⟨p, 0, none⟩) hp).trans h0
    have d1 := (s2.cell (a := ⟨p, 1, none⟩) hp).trans h1
    have S2 := Lib.hid s2
    clear hs s1 s2
    go_wp2_with fail
    refine (allTwo_any p W.heap.size A C n c m d (decide (m = n)) _ rfl c1 d0 d1).mono ?_
    rintro e w' ⟨rfl, rfl⟩
    go_wp2
    go_ret
    exact ⟨ret_bool (by unfold okTwo; simp only [inB] at h5; rw [Bool.eq_iff_iff] at h5 ⊢; simp at h5 ⊢; omega), S2.out⟩
def likeO (xs ys : List Nat) (n : Nat) : O := qu (dotO xs ys n) (rootO (mu (dotO xs xs n) (dotO ys ys n)))
def balO (L R : O) : O := if eqO (ad R L) (some 0) then some 0 else qu (su R L) (ad R L)
theorem okTwo_yes {n m : Nat} (h : okTwo n m = true) : n ≤ 256 ∧ 0 < n ∧ n = m := by unfold okTwo at h; simpa [and_assoc] using h
set_option maxHeartbeats 4000000 in
set_option maxRecDepth 100000 in
theorem implLike_any (A : Option Addr) (n c : Nat) (xs : List Nat) (C : Option Addr) (m d : Nat) (ys : List Nat) (w : World) (hA : Fs w w.heap.size A n xs) (hn : n ≤ 1048576) (hC : Fs w w.heap.size C m ys) (hm : m ≤ 1048576) (Z : O)
    (hZ : Hid (Z = if okTwo n m then likeO xs ys n else some 0)) :
    Calls Try.prog 14 #[.slice A n c, .slice C m d] w (PVB Z (okTwo n m) w) := by
  have HA := Lib.hid hA; have HC := Lib.hid hC
  clear hA hC
  obtain ⟨W1, hW1⟩ : ∃ W, W = w.alloc (.cells #[.slice A n c, .slice C m d] 24) := ⟨_, rfl⟩
  have S1 : Hid (w.Since w.heap.size W1) := Lib.hid (by rw [hW1]; exact (World.Since.refl _ _).alloc (Nat.le_refl _) _)
  have Z1 : Hid (W1.heap.size = w.heap.size + 1) := Lib.hid (by rw [hW1]; simp)
  have C1 : Hid (W1.cell? ⟨w.heap.size, 0, none⟩ = some (.slice A n c) ∧ W1.cell? ⟨w.heap.size, 1, none⟩ = some (.slice C m d)) := Lib.hid (by rw [hW1]; exact ⟨by simp [go_sem], by simp [go_sem]⟩)
  cases h0 : okTwo n m
  · rw [h0] at hZ
    obtain rfl := hZ.out
    clear hZ
    go_enter Try.func14, Try.ntmps14
    go_wp2_with fail
    rw [← hW1]
    refine (implTwo_b w.heap.size A C n c m d false W1 (by have := Z1.out; omega) h0 C1.out.1 C1.out.2 hn).mono ?_
    rintro e w2 ⟨rfl, hs⟩
    have S2 := Lib.hid (S1.out.trans (since_mono hs S1.out.size)); clear hs
    go_wp2
    go_ret2
    exact ⟨0, rfl, fv0, S2.out⟩
  · rw [h0] at hZ
    simp only [if_true] at hZ
    obtain ⟨h1, h2, rfl⟩ := okTwo_yes h0
    have H0 := Lib.hid h0; clear h0
    go_enter Try.func14, Try.ntmps14
    go_wp2_with fail
    rw [← hW1]
    refine (implTwo_b w.heap.size A C n c n d true W1 (by have := Z1.out; omega) H0.out C1.out.1 C1.out.2 hn).mono ?_
    rintro e w2 ⟨rfl, hs⟩
    have S2 := Lib.hid (S1.out.trans (since_mono hs S1.out.size)); clear hs
    have FA := Lib.hid (HA.out.now S2.out); have FC := Lib.hid (HC.out.now S2.out)
    have HD := Lib.hid (implDot_any A n c xs C n d ys w2 _ FA.out FC.out hn hn)
    rw [if_pos ⟨h1, rfl⟩, decide_eq_true (show n ≤ 256 ∧ n = n from ⟨h1, rfl⟩)] at HD
    go_wp2_with fail
    refine HD.out.mono ?_
    rintro e w1 ⟨r1, m1, rfl, hv, rfl⟩
    have V1 := Lib.hid hv; clear hv HD
    go_wp2_with fail
    refine (implPower_any A n c xs _ _ (FA.out.drewN m1) h1).mono ?_
    rintro e w1 ⟨r2, m2, rfl, hv, rfl⟩
    have V2 := Lib.hid hv; clear hv
    go_wp2_with fail
    refine (implPower_any C n d ys _ _ (FC.out.drewN (m1 + m2)) h1).mono ?_
    rintro e w1 ⟨r3, m3, rfl, hv, rfl⟩
    have V3 := Lib.hid hv; clear hv
    go_wp2_with (first | (with_reducible_and_instances refine Lo.wpList_fo _ rfl _ _ _ _ _ rfl _ _ _ _ _ rfl rfl rfl (by assumption) (by assumption) ?_; intro rr nn hrr) | fail)
    refine (implRoot_any _ _ hrr.out.1).mono ?_
    rintro e w' ⟨r4, m4, rfl, hv, rfl⟩
    rw [hrr.out.2] at hv
    have V4 := Lib.hid hv; clear hv
    clear hrr
    go_wp2_with (first | (with_reducible_and_instances refine Lo.wpList_fo _ rfl _ _ _ _ _ rfl _ _ _ _ _ rfl rfl rfl (by assumption) (by assumption) ?_; intro rr nn hrr) | fail)
    go_ret2
    exact ⟨_, rfl, by rw [hZ.out]; exact hrr, by (repeat (first | (with_reducible refine Fl.sinDrew ?_) | (with_reducible refine since_drewN ?_ _) | with_reducible exact S2.out))⟩
theorem okTwo_mean {n m : Nat} (h : okTwo n m = true) (xs : List Nat) : meanR xs n = meanO xs n ∧ meanB n = true := by
  obtain ⟨h1, h2, rfl⟩ := okTwo_yes h
  exact ⟨meanR_yes h1 h2, by unfold meanB; rw [decide_eq_true h1, decide_eq_true h2]; rfl⟩
set_option maxHeartbeats 4000000 in
set_option maxRecDepth 100000 in
theorem implBal_any (A : Option Addr) (n c : Nat) (xs : List Nat) (C : Option Addr) (m d : Nat) (ys : List Nat) (w : World) (hA : Fs w w.heap.size A n xs) (hn : n ≤ 1048576) (hC : Fs w w.heap.size C m ys) (hm : m ≤ 1048576) (Z : O)
    (hZ : Hid (Z = if okTwo n m then balO (meanO xs n) (meanO ys n) else some 0)) :
    Calls Try.prog 15 #[.slice A n c, .slice C m d] w (PVB Z (okTwo n m) w) := by
  have HA := Lib.hid hA; have HC := Lib.hid hC
  clear hA hC
  obtain ⟨W1, hW1⟩ : ∃ W, W = w.alloc (.cells #[.slice A n c, .slice C m d] 24) := ⟨_, rfl⟩
  have S1 : Hid (w.Since w.heap.size W1) := Lib.hid (by rw [hW1]; exact (World.Since.refl _ _).alloc (Nat.le_refl _) _)
  have Z1 : Hid (W1.heap.size = w.heap.size + 1) := Lib.hid (by rw [hW1]; simp)
  have C1 : Hid (W1.cell? ⟨w.heap.size, 0, none⟩ = some (.slice A n c) ∧ W1.cell? ⟨w.heap.size, 1, none⟩ = some (.slice C m d)) := Lib.hid (by rw [hW1]; exact ⟨by simp [go_sem], by simp [go_sem]⟩)
  cases h0 : okTwo n m
  · rw [h0] at hZ
    obtain rfl := hZ.out
    clear hZ
    go_enter Try.func15, Try.ntmps15
    go_wp2_with fail
    rw [← hW1]
    refine (implTwo_b w.heap.size A C n c m d false W1 (by have := Z1.out; omega) h0 C1.out.1 C1.out.2 hn).mono ?_
    rintro e w2 ⟨rfl, hs⟩
    have S2 := Lib.hid (S1.out.trans (since_mono hs S1.out.size)); clear hs
    go_wp2
    go_ret2
    exact ⟨0, rfl, fv0, S2.out⟩
  · rw [h0] at hZ
    simp only [if_true] at hZ
    have k1 := okTwo_mean h0 xs; have k2 := okTwo_mean h0 ys
    obtain ⟨h1, h2, rfl⟩ := okTwo_yes h0
    have H0 := Lib.hid h0; clear h0
    have HM1 := Lib.hid fun v (s : w.Since w.heap.size v) => implMean_any A n c xs v _ (HA.out.since s) hn
    have HM2 := Lib.hid fun v (s : w.Since w.heap.size v) => implMean_any C n d ys v _ (HC.out.since s) hn
    rw [k1.1, k1.2] at HM1
    rw [k2.1, k2.2] at HM2
    clear k1 k2
    go_enter Try.func15, Try.ntmps15
    go_wp2_with fail
    rw [← hW1]
    refine (implTwo_b w.heap.size A C n c n d true W1 (by have := Z1.out; omega) H0.out C1.out.1 C1.out.2 hn).mono ?_
    rintro e w2 ⟨rfl, hs⟩
    have S2 := Lib.hid (S1.out.trans (since_mono hs S1.out.size)); clear hs
    go_wp2_with fail
    refine (HM1.out _ S2.out).mono ?_
    rintro e w1 ⟨r1, m1, rfl, hv, rfl⟩
    have V1 := Lib.hid hv; clear hv
    go_wp2_with fail
    refine (HM2.out _ (since_drewN S2.out m1)).mono ?_
    rintro e w1 ⟨r2, m2, rfl, hv, rfl⟩
    have V2 := Lib.hid hv; clear hv
    obtain ⟨L, hL⟩ : ∃ L, L = meanO xs n := ⟨_, rfl⟩
    obtain ⟨R, hR⟩ : ∃ R, R = meanO ys n := ⟨_, rfl⟩
    rw [← hL] at V1 hZ; rw [← hR] at V2 hZ
    clear hL hR HM1 HM2
    cases e1 : eqO (ad R L) (some 0)
    · have e2 : Z = qu (su R L) (ad R L) := by rw [hZ.out]; unfold balO; rw [e1]; rfl
      have E2 := Lib.hid e2
      clear e2 hZ
      have E1 : ∀ r, Hid (Fv .f32 r (opO .add .f32 R L)) → (FloatKind.f32.format.order r 0 == some .eq) = false := fun r hr => (eq_fv hr fv0).trans e1
      have EH := Lib.hid E1; clear E1 e1
      go_wp2_with (first | (with_reducible_and_instances refine Lo.wpList_fo _ rfl .add _ _ _ _ rfl _ _ _ _ _ rfl rfl rfl V2 V1 ?_; intro rr nn hrr; have hne := EH.out _ hrr) | (with_reducible_and_instances refine Lo.wpList_fo _ rfl .sub _ _ _ _ rfl _ _ _ _ _ rfl rfl rfl V2 V1 ?_; intro rs nn hrs) | (with_reducible_and_instances refine Lo.wpList_fo _ rfl .quo _ _ _ _ rfl _ _ _ _ _ rfl rfl rfl hrs (by assumption) ?_; intro rq nn hrq))
      go_ret2
      exact ⟨_, rfl, by rw [E2.out]; exact hrq, by (repeat (first | (with_reducible refine Fl.sinDrew ?_) | (with_reducible refine since_drewN ?_ _) | with_reducible exact S2.out))⟩
    · have e2 : Z = some 0 := by rw [hZ.out]; unfold balO; rw [e1]; rfl
      subst e2
      clear hZ
      have E1 : ∀ r, Hid (Fv .f32 r (opO .add .f32 R L)) → (FloatKind.f32.format.order r 0 == some .eq) = true := fun r hr => (eq_fv hr fv0).trans e1
      have EH := Lib.hid E1; clear E1 e1
      go_wp2_with (first | (with_reducible_and_instances refine Lo.wpList_fo _ rfl .add _ _ _ _ rfl _ _ _ _ _ rfl rfl rfl V2 V1 ?_; intro rr nn hrr; have heq := EH.out _ hrr))
      go_ret2
      exact ⟨0, rfl, fv0, by (repeat (first | (with_reducible refine Fl.sinDrew ?_) | (with_reducible refine since_drewN ?_ _) | with_reducible exact S2.out))⟩
end Go.Proofs.Ytfgebggfoboalaa

/- Likeness and balance of plain numbers: what the law of channels asks. -/
set_option linter.unusedVariables false
set_option linter.unusedSimpArgs false
namespace Go.Proofs.Ytfgebggfoboalaa
open Fl Go.RowKit Ieee
theorem prod_comm (a b : Datum) : Datum.product a b = Datum.product b a := by
  cases a <;> cases b <;> simp [Datum.product, Bool.xor_comm, Nat.mul_comm, Int.add_comm]
theorem mu_comm (x y : O) : mu x y = mu y x := by
  cases x with
  | none => cases y <;> rfl
  | some a =>
    cases y with
    | none => rfl
    | some b =>
      show floatBits .mul .f32 a b = floatBits .mul .f32 b a
      show (Datum.product _ _).map _ = (Datum.product _ _).map _
      rw [prod_comm]
theorem dot_comm (xs ys : List Nat) : ∀ n, dotO xs ys n = dotO ys xs n
  | 0 => rfl
  | n + 1 => by
    show opO .add .f32 (dotO xs ys n) (opO .mul .f32 _ _) = opO .add .f32 (dotO ys xs n) (opO .mul .f32 _ _)
    rw [dot_comm xs ys n]
    have := mu_comm (ab .f32 (wd xs n)) (ab .f32 (wd ys n))
    exact congrArg _ this
theorem like_comm (xs ys : List Nat) (n : Nat) : likeO xs ys n = likeO ys xs n := by
  unfold likeO
  rw [dot_comm xs ys n, mu_comm]
theorem rung_sign (k : FloatKind) (s s' : Bool) (m : Nat) (p : Int) : rung k (k.format.nearest s m p) = rung k (k.format.nearest s' m p) := by
  have h := fun a b => nearest_mono k a b (mag := m) (mag' := m) (place := p) (place' := p) (b := min p k.format.leastPlace) (by omega) (by omega) (by omega) (Nat.le_refl _)
  exact Nat.le_antisymm (h s s') (h s' s)
theorem read_two (k : FloatKind) {b b' : Nat} (h : rung k b < k.format.infRung) (e : rung k b' = rung k b) :
    ∃ m f : Nat, k.format.read b = .number (sgn k b) m (k.format.leastPlace + f) ∧ k.format.read b' = .number (sgn k b') m (k.format.leastPlace + f) := by
  unfold rung at h e
  unfold Format.read
  dsimp only
  rw [e]
  split
  · exact ⟨b % k.format.signWeight, 0, by simp [sgn], by simp [sgn]⟩
  · exact ⟨_, _, rfl, rfl⟩
theorem div_rung (k : FloatKind) {x x' y z z' : Nat} (hx : Fl.Fin k x) (hy : Fl.Fin k y) (e : rung k x' = rung k x)
    (h : floatBits .quo k x y = some z) (h' : floatBits .quo k x' y = some z') : rung k z' = rung k z := by
  obtain ⟨m, f, h1, h2⟩ := read_two k hx e
  obtain ⟨n, g, hn, _⟩ := read_fin k hy
  simp only [floatBits, Format.div, h1, hn, Datum.quotient] at h
  simp only [floatBits, Format.div, h2, hn, Datum.quotient] at h'
  by_cases hn0 : n = 0
  · rw [if_pos hn0] at h h'
    by_cases hm0 : m = 0
    · rw [if_pos hm0] at h; cases h
    · rw [if_neg hm0] at h h'
      simp only [Option.map_some] at h h'
      injection h with h; injection h' with h'
      rw [← h, ← h']
      have hw : ∀ s, rung k (k.format.write (.infinity s)) = k.format.infRung := fun s => by cases k <;> cases s <;> decide
      rw [hw, hw]
  · rw [if_neg hn0] at h h'
    simp only [Option.map_some] at h h'
    injection h with h; injection h' with h'
    rw [← h, ← h']
    exact rung_sign k _ _ _ _
theorem sub_flip (k : FloatKind) {x y a b : Nat} (hx : Fl.Fin k x) (hy : Fl.Fin k y) (h : floatBits .sub k x y = some a) (h' : floatBits .sub k y x = some b) : rung k b = rung k a := by
  obtain ⟨m, e, hm, _⟩ := read_fin k hx
  obtain ⟨n, f, hn, _⟩ := read_fin k hy
  simp only [floatBits, Format.sub, hm, hn, Datum.opposite, Datum.sum, Option.map_some] at h h'
  injection h with h; injection h' with h'
  rw [← h, ← h']
  have hs : ∀ (s : Bool) (q u : Nat), signed (!s) q u = - signed s q u := fun s q u => by cases s <;> simp [signed]
  have e1 : min (k.format.leastPlace + (f : Int)) (k.format.leastPlace + (e : Int)) = min (k.format.leastPlace + (e : Int)) (k.format.leastPlace + (f : Int)) := Int.min_comm _ _
  rw [e1]
  generalize min (k.format.leastPlace + (e : Int)) (k.format.leastPlace + (f : Int)) = base
  rw [hs, hs]
  generalize signed (sgn k x) m _ = X
  generalize signed (sgn k y) n _ = Y
  show rung k (k.format.nearest _ _ _) = rung k (k.format.nearest _ _ _)
  rw [show (Y + -X).natAbs = (X + -Y).natAbs by omega]
  exact rung_sign k _ _ _ _
theorem add_comm_finC (k : FloatKind) {x y : Nat} (hx : Fl.Fin k x) (hy : Fl.Fin k y) : floatBits .add k x y = floatBits .add k y x := by
  obtain ⟨m, e, hm, _⟩ := read_fin k hx
  obtain ⟨n, f, hn, _⟩ := read_fin k hy
  simp only [floatBits, Format.add, hm, hn, Datum.sum, Option.map_some]
  rw [Int.add_comm, Int.min_comm, Bool.and_comm]
theorem diff_le (A B : Nat) : ((A : Int) + -(B : Int)).natAbs ≤ ((A : Int) + (B : Int)).natAbs := by omega
theorem key_zero {b : Nat} (h : rung .f32 b = 0) : key .f32 b = 0 := by
  unfold key sg; rw [h]; cases sgn .f32 b <;> rfl
theorem bal_all {l r : Nat} (fl : rung .f32 l ≤ 1160000000) (fr : rung .f32 r ≤ 1160000000) (sl : sgn .f32 l = false) (sr : sgn .f32 r = false) :
    ∃ x y z, balO (some l) (some r) = some x ∧ balO (some r) (some l) = some y ∧ balO (some l) (some l) = some z ∧ (y < 4294967296 →
      FloatKind.f32.format.order x (Op.negFloat .f32 y) = some .eq) ∧ FloatKind.f32.format.order z 0 = some .eq ∧
      (FloatKind.f32.format.order x 3212836864 == some .lt) = false ∧ (FloatKind.f32.format.order x 1065353216 == some .gt) = false := by
  have Fl' : Fl.Fin .f32 l := by show rung .f32 l < _; rw [ir_f32]; omega
  have Fr' : Fl.Fin .f32 r := by show rung .f32 r < _; rw [ir_f32]; omega
  have k1 : key .f32 1065353216 = 1065353216 := by decide
  have k2 : key .f32 3212836864 = -1065353216 := by decide
  have k0 : key .f32 0 = 0 := by decide
  have a1 : ab .f32 1065353216 = some 1065353216 := by decide
  have a2 : ab .f32 3212836864 = some 3212836864 := by decide
  have a0 : ab .f32 0 = some 0 := by decide
  have c2 : ∀ {p : Nat}, rung .f32 p ≤ 1160000000 → zv .f32 (rung .f32 p) ≤ zv .f32 1160000000 := fun h => (zv_le .f32).2 h
  have ct : 2 * zv .f32 1160000000 ≤ zv .f32 1170000000 := by decide +kernel
  -- sums
  have sum : ∀ {p q : Nat}, rung .f32 p ≤ 1160000000 → rung .f32 q ≤ 1160000000 → sgn .f32 p = false → sgn .f32 q = false → ∃ s, floatBits .add .f32 p q = some s ∧ Fl.Fin .f32 s ∧ sgn .f32 s = false ∧ (∀ c, c < FloatKind.f32.format.infRung → zv .f32 c ≤ zv .f32 (rung .f32 p) + zv .f32 (rung .f32 q) → c ≤ rung .f32 s) := by
    intro p q hp hq sp sq
    have fp : Fl.Fin .f32 p := by show rung .f32 p < _; rw [ir_f32]; omega
    have fq : Fl.Fin .f32 q := by show rung .f32 q < _; rw [ir_f32]; omega
    obtain ⟨s, hs, R, h0⟩ := add_val .f32 fp fq
    obtain ⟨s', hs', ss⟩ := sum_nn fp fq sp sq
    rw [hs] at hs'; injection hs' with hs'; subst hs'
    have vp : sv .f32 p = (zv .f32 (rung .f32 p) : Int) := by unfold sv sg; rw [sp]; rfl
    have vq : sv .f32 q = (zv .f32 (rung .f32 q) : Int) := by unfold sv sg; rw [sq]; rfl
    rw [vp, vq] at R
    have hn : ((zv .f32 (rung .f32 p) : Int) + (zv .f32 (rung .f32 q) : Int)).natAbs = zv .f32 (rung .f32 p) + zv .f32 (rung .f32 q) := by omega
    refine ⟨s, hs, ?_, ss, fun c hc h => R.ge c hc (by rw [hn]; exact h)⟩
    have h1 := c2 hp
    have h2 := c2 hq
    exact Nat.lt_of_le_of_lt (R.le 1170000000 (by rw [ir_f32]; decide) (by rw [hn]; omega)) (by rw [ir_f32]; decide)
  have eqz : ∀ {s : Nat}, Fl.Fin .f32 s → eqO (some s) (some 0) = decide (key .f32 s = 0) := by
    intro s hs
    unfold eqO
    show (FloatKind.f32.format.order s 0 == some .eq) = _
    rw [order_key .f32 (fin_abK hs) a0, k0, cmp_def]
    by_cases h1 : key .f32 s < 0
    · rw [if_pos h1, decide_eq_false (by omega)]; rfl
    · rw [if_neg h1]
      by_cases h2 : key .f32 s = 0
      · rw [if_pos h2, decide_eq_true h2]; rfl
      · rw [if_neg h2, decide_eq_false h2]; rfl
  have keyp : ∀ {s : Nat}, sgn .f32 s = false → key .f32 s = (rung .f32 s : Int) := by intro s h; unfold key sg; rw [h]; rfl
  -- one quotient
  have quo : ∀ {p q s : Nat}, rung .f32 p ≤ 1160000000 → rung .f32 q ≤ 1160000000 → sgn .f32 p = false → sgn .f32 q = false → floatBits .add .f32 p q = some s → Fl.Fin .f32 s → (∀ c, c < FloatKind.f32.format.infRung → zv .f32 c ≤ zv .f32 (rung .f32 p) + zv .f32 (rung .f32 q) → c ≤ rung .f32 s) → rung .f32 s ≠ 0 →
      ∃ a x, floatBits .sub .f32 p q = some a ∧ Fl.Fin .f32 a ∧ floatBits .quo .f32 a s = some x ∧ rung .f32 x ≤ 1065353216 ∧ sgn .f32 x = (sgn .f32 a ^^ sgn .f32 s) ∧ (sv .f32 p - sv .f32 q ≠ 0 → sgn .f32 a = decide (sv .f32 p - sv .f32 q < 0)) ∧ (sv .f32 p - sv .f32 q = 0 → rung .f32 a = 0) := by
    intro p q s hp hq sp sq hs fs hge hs0
    have fp : Fl.Fin .f32 p := by show rung .f32 p < _; rw [ir_f32]; omega
    have fq : Fl.Fin .f32 q := by show rung .f32 q < _; rw [ir_f32]; omega
    obtain ⟨a, ha, R, h0⟩ := sub_val .f32 fp fq
    have vp : sv .f32 p = (zv .f32 (rung .f32 p) : Int) := by unfold sv sg; rw [sp]; rfl
    have vq : sv .f32 q = (zv .f32 (rung .f32 q) : Int) := by unfold sv sg; rw [sq]; rfl
    -- the difference is at most the sum: both are rounded
    obtain ⟨s', hs', R2, _⟩ := add_val .f32 fp fq
    rw [hs] at hs'; injection hs' with hs'; subst hs'
    have hle : rung .f32 a ≤ rung .f32 s := by
      obtain ⟨m, e, hm, hz⟩ := read_fin .f32 fp
      obtain ⟨n, f, hn, hz2⟩ := read_fin .f32 fq
      simp only [floatBits, Format.sub, hm, hn, Datum.opposite, Datum.sum, Option.map_some] at ha
      simp only [floatBits, Format.add, hm, hn, Datum.sum, Option.map_some] at hs
      injection ha with ha; injection hs with hs
      rw [← ha, ← hs]
      show rung .f32 (FloatKind.f32.format.nearest _ _ _) ≤ rung .f32 (FloatKind.f32.format.nearest _ _ _)
      refine nearest_mono .f32 _ _ (b := min (min (FloatKind.f32.format.leastPlace + (e : Int)) (FloatKind.f32.format.leastPlace + (f : Int))) FloatKind.f32.format.leastPlace) (by omega) (by omega) (by omega) (Nat.mul_le_mul_right _ ?_)
      rw [sp, sq]
      exact diff_le (m <<< _) (n <<< _)
    have fa : Fl.Fin .f32 a := Nat.lt_of_le_of_lt hle fs
    obtain ⟨x, hx, hx1⟩ := div_size .f32 (t := 1065353216) fa fs (by show rung .f32 _ < _; decide) hs0 149 (by decide) (by
      rw [show rung .f32 1065353216 = 1065353216 by decide, zv_one, Nat.mul_comm]
      exact Nat.mul_le_mul_left _ ((zv_le .f32).2 hle))
    obtain ⟨x', hx', sx⟩ := div_sign .f32 fa fs hs0
    rw [hx] at hx'; injection hx' with hx'; subst hx'
    refine ⟨a, x, ha, fa, hx, hx1, sx, R.sgn, fun h => ?_⟩
    have := R.le 0 (by rw [ir_f32]; decide) (by rw [h]; exact Nat.zero_le _)
    omega
  obtain ⟨s, hs, fs, ss, gs⟩ := sum fr fl sr sl
  have hs2 : floatBits .add .f32 l r = some s := by rw [← add_comm_finC .f32 Fr' Fl']; exact hs
  obtain ⟨t, ht, ft, st, gt⟩ := sum fl fl sl sl
  have keyin : ∀ {x : Nat}, rung .f32 x ≤ 1065353216 → ab .f32 x = some x ∧ (FloatKind.f32.format.order x 3212836864 == some .lt) = false ∧ (FloatKind.f32.format.order x 1065353216 == some .gt) = false := by
    intro x hx
    have fx : Fl.Fin .f32 x := by show rung .f32 x < _; rw [ir_f32]; omega
    have ax := fin_abK fx
    have hk : -1065353216 ≤ key .f32 x ∧ key .f32 x ≤ 1065353216 := by
      unfold key sg; cases sgn .f32 x
      · rw [if_neg Bool.false_ne_true]; omega
      · rw [if_pos rfl]; omega
    refine ⟨ax, ?_, ?_⟩
    · rw [order_key .f32 ax a2, k2, cmp_def, if_neg (by omega)]
      split <;> rfl
    · rw [order_key .f32 ax a1, k1, cmp_def]
      by_cases h : key .f32 x < 1065353216
      · rw [if_pos h]; rfl
      · rw [if_neg h, if_pos (by omega)]; rfl
  -- the balance with itself
  have hz : ∃ z, balO (some l) (some l) = some z ∧ FloatKind.f32.format.order z 0 = some .eq := by
    unfold balO
    rw [show ad (some l) (some l) = some t from ht, eqz ft]
    by_cases h0 : key .f32 t = 0
    · rw [if_pos (decide_eq_true h0)]
      exact ⟨0, rfl, by decide⟩
    · rw [if_neg (by rw [decide_eq_false h0]; exact Bool.false_ne_true)]
      have ht0 : rung .f32 t ≠ 0 := fun h => h0 (key_zero h)
      obtain ⟨a, x, ha, fa, hx, hx1, sx, _, hz0⟩ := quo fl fl sl sl ht ft gt ht0
      refine ⟨x, ?_, ?_⟩
      · rw [show su (some l) (some l) = some a from ha]; exact hx
      · have ra := hz0 (by omega)
        obtain ⟨x', hx', hx2⟩ := div_size .f32 (t := 0) fa ft (by show rung .f32 _ < _; decide) ht0 149 (by decide) (by rw [ra, zv_zero, Nat.zero_mul]; exact Nat.zero_le _)
        rw [hx] at hx'; injection hx' with hx'; subst hx'
        have rx : rung .f32 x = 0 := Nat.le_zero.1 hx2
        rw [order_key .f32 (keyin hx1).1 a0, k0, key_zero rx]; rfl
  obtain ⟨z, hz1, hz2⟩ := hz
  unfold balO
  unfold balO at hz1
  rw [hz1]
  rw [show ad (some r) (some l) = some s from hs, show ad (some l) (some r) = some s from hs2, eqz fs]
  by_cases h0 : key .f32 s = 0
  · rw [if_pos (decide_eq_true h0), if_pos (decide_eq_true h0)]
    exact ⟨0, 0, z, rfl, rfl, rfl, fun _ => by decide, hz2, by decide, by decide⟩
  · rw [if_neg (by rw [decide_eq_false h0]; exact Bool.false_ne_true), if_neg (by rw [decide_eq_false h0]; exact Bool.false_ne_true)]
    have hs0 : rung .f32 s ≠ 0 := fun h => h0 (key_zero h)
    obtain ⟨a, x, ha, fa, hx, hx1, sx, da, za⟩ := quo fr fl sr sl hs fs gs hs0
    obtain ⟨b, y, hb, fb, hy, hy1, sy, db, zb⟩ := quo fl fr sl sr hs2 fs (fun c hc h => gs c hc (by omega)) hs0
    have rab := sub_flip .f32 Fr' Fl' ha hb
    have rxy := div_rung .f32 fa fs rab hx hy
    obtain ⟨ax, g1, g2⟩ := keyin hx1
    refine ⟨x, y, z, ?_, ?_, rfl, fun ly => ?_, hz2, g1, g2⟩
    · rw [show su (some r) (some l) = some a from ha]; exact hx
    · rw [show su (some l) (some r) = some b from hb]; exact hy
    · rw [order_key .f32 ax (neg_ab (keyin hy1).1)]
      have : key .f32 (Op.negFloat .f32 y) = key .f32 x := by
        by_cases hv : sv .f32 r - sv .f32 l = 0
        · have ra := za hv
          obtain ⟨x', hx', hx2⟩ := div_size .f32 (t := 0) fa fs (by show rung .f32 _ < _; decide) hs0 149 (by decide) (by rw [ra, zv_zero, Nat.zero_mul]; exact Nat.zero_le _)
          rw [hx] at hx'; injection hx' with hx'; subst hx'
          have rx : rung .f32 x = 0 := Nat.le_zero.1 hx2
          rw [key_zero rx]
          exact key_zero (by rw [neg_rung, rxy, rx])
        · unfold key
          rw [neg_rung, neg_sgn ly, rxy, sx, sy, da hv, db (by omega)]
          congr 1
          have : decide (sv .f32 l - sv .f32 r < 0) = !decide (sv .f32 r - sv .f32 l < 0) := by
            rw [← decide_not]; exact decide_eq_decide.2 (by omega)
          rw [this]
          cases decide (sv .f32 r - sv .f32 l < 0) <;> cases sgn .f32 s <;> rfl
      rw [this, cmp_def, if_neg (by omega), if_pos rfl]
end Go.Proofs.Ytfgebggfoboalaa

/- A channel is nearly as like itself as can be: the quotient of a number and the root of its square. -/
set_option linter.unusedVariables false
set_option linter.unusedSimpArgs false
namespace Go.Proofs.Ytfgebggfoboalaa
open Fl Go.RowKit Ieee
theorem like_nat {m J : Nat} (h1 : 8388608 ≤ m) (h2 : m < 16777216) : ∃ M M', M < 16777216 ∧ M' < 16777216 ∧ m * m ≤ M * 33554432 ∧ M * 33554432 ≤ ((m / 4 + 2) * 4) * ((m / 4 + 2) * 4) ∧
    M' * 33554432 ≤ m * m ∧ ((m / 4 - 1) * 4) * ((m / 4 - 1) * 4) ≤ M' * 33554432 := by
  have hm1 : m + 5 ≤ (m / 4 + 2) * 4 := by omega
  have hm2 : (m / 4 - 1) * 4 ≤ m - 4 := by omega
  have q1 : (m + 5) * (m + 5) ≤ (m / 4 + 2) * 4 * ((m / 4 + 2) * 4) := Nat.mul_le_mul hm1 hm1
  have q2 : (m / 4 - 1) * 4 * ((m / 4 - 1) * 4) ≤ (m - 4) * (m - 4) := Nat.mul_le_mul hm2 hm2
  have e1 : (m + 5) * (m + 5) = m * m + 10 * m + 25 := by grind
  have e2 : (m - 4) * (m - 4) + 8 * m = m * m + 16 := by
    obtain ⟨k, rfl⟩ : ∃ k, m = k + 4 := ⟨m - 4, by omega⟩
    rw [Nat.add_sub_cancel]; grind
  have hb : m * m < 16777216 * 16777216 := Nat.mul_lt_mul_of_lt_of_le h2 (Nat.le_of_lt h2) (by omega)
  generalize m * m = X at *
  generalize (m / 4 + 2) * 4 * ((m / 4 + 2) * 4) = Y at *
  generalize (m / 4 - 1) * 4 * ((m / 4 - 1) * 4) = Z at *
  generalize (m - 4) * (m - 4) = V at *
  refine ⟨(X + 33554431) / 33554432, X / 33554432, by omega, by omega, by omega, by omega, by omega, by omega⟩
theorem exp_a {e : Nat} (h : e ≤ 140) : (2 * e - 124 + 2) * 8388608 ≤ 2139095040 := by omega
theorem exp_b {e : Nat} (h : e ≤ 140) : (e + 2 + 2) * 8388608 ≤ 2139095040 := by omega
theorem man_a {m : Nat} (h : m < 16777216) : m / 4 + 2 < 16777216 := by omega
theorem man_b {m : Nat} (h : m < 16777216) : m / 4 - 1 < 16777216 := by omega
theorem up_le {m : Nat} (h1 : 8388608 ≤ m) : m * 16777216 ≤ 16777248 * (m - 7) := by omega
theorem low_le {m : Nat} (h1 : 8388608 ≤ m) : 16777184 * (m + 8) ≤ m * 16777216 := by omega
theorem zvT1 (F : Nat) (hF : 2 ^ 125 = F) : zv .f32 1065353232 = 16777248 * F := by subst hF; decide +kernel
theorem zvT2 (F : Nat) (hF : 2 ^ 125 = F) : zv .f32 1065353184 = 16777184 * F := by subst hF; decide +kernel
theorem zvT0 (F : Nat) (hF : 2 ^ 125 = F) : 2 ^ 149 = 16777216 * F := by subst hF; decide +kernel
/-- the quotient of d and the root of d * d -/
theorem like_one {d : Nat} (sd : sgn .f32 d = false) (hd1 : 998244352 ≤ rung .f32 d) (hd2 : rung .f32 d ≤ 1160000000) :
    ∃ c, qu (some d) (rootO (mu (some d) (some d))) = some c ∧ sgn .f32 c = false ∧ rung .f32 c ≤ 1065353232 ∧ 1065353184 ≤ rung .f32 c := by
  have fd : Fl.Fin .f32 d := by show rung .f32 d < _; rw [ir_f32]; omega
  have hb : FloatKind.f32.format.binade = 8388608 := by decide
  have pw : (2 : Nat) ^ (FloatKind.f32.format.fractionBits + 1) = 16777216 := by decide
  obtain ⟨m, e, hz, hform, hlt⟩ := rung_form .f32 (rung .f32 d)
  rw [hb] at hform
  rcases hform with ⟨h1, _⟩ | ⟨_, hm, he⟩
  · omega
  have m1 : 8388608 ≤ m := by omega
  have m2 : m < 16777216 := by omega
  have e1 : 118 ≤ e := by omega
  have e2 : e ≤ 140 := by omega
  clear hm he hlt
  obtain ⟨M, M', l1, l2, l3, l4, l5, l6⟩ := like_nat (J := 0) m1 m2
  obtain ⟨E, hE⟩ : ∃ E : Nat, E = 149 := ⟨_, rfl⟩
  obtain ⟨F, hF⟩ : ∃ F : Nat, 2 ^ 125 = F := ⟨_, rfl⟩
  have ir := ir_f32
  -- the square, rounded, lies between two words
  obtain ⟨c1, i1, z1⟩ := rep .f32 (m := M) (e := 2 * e - 124) (Nat.lt_of_lt_of_eq l1 pw.symm) (by rw [hb]; exact Nat.le_trans (exp_a e2) (Nat.le_of_eq ir.symm))
  obtain ⟨c2, i2, z2⟩ := rep .f32 (m := M') (e := 2 * e - 124) (Nat.lt_of_lt_of_eq l2 pw.symm) (by rw [hb]; exact Nat.le_trans (exp_a e2) (Nat.le_of_eq ir.symm))
  obtain ⟨t1, j1, y1⟩ := rep .f32 (m := m / 4 + 2) (e := e + 2) (Nat.lt_of_lt_of_eq (man_a m2) pw.symm) (by rw [hb]; exact Nat.le_trans (exp_b e2) (Nat.le_of_eq ir.symm))
  obtain ⟨t2, j2, y2⟩ := rep .f32 (m := m / 4 - 1) (e := e + 2) (Nat.lt_of_lt_of_eq (man_b m2) pw.symm) (by rw [hb]; exact Nat.le_trans (exp_b e2) (Nat.le_of_eq ir.symm))
  have p4 : (2 : Nat) ^ (e + 2) = 4 * 2 ^ e := by rw [Nat.pow_add]; omega
  have y1' : zv .f32 t1 = (m / 4 + 2) * 4 * 2 ^ e := by rw [y1, p4, Nat.mul_assoc]
  have y2' : zv .f32 t2 = (m / 4 - 1) * 4 * 2 ^ e := by rw [y2, p4, Nat.mul_assoc]
  have pE : (2 : Nat) ^ (2 * e - 124) * 2 ^ E = 33554432 * (2 ^ e * 2 ^ e) := by
    rw [← Nat.pow_add, ← Nat.pow_add, show 2 * e - 124 + E = 25 + (e + e) by omega, Nat.pow_add]
  have sqz : zv .f32 (rung .f32 d) * zv .f32 (rung .f32 d) = m * m * (2 ^ e * 2 ^ e) := by rw [hz]; ac_rfl
  have w1 : zv .f32 c1 * 2 ^ E = M * 33554432 * (2 ^ e * 2 ^ e) := by rw [z1, Nat.mul_assoc, pE, ← Nat.mul_assoc]
  have w2 : zv .f32 c2 * 2 ^ E = M' * 33554432 * (2 ^ e * 2 ^ e) := by rw [z2, Nat.mul_assoc, pE, ← Nat.mul_assoc]
  obtain ⟨p, hp, sp, pl, pg⟩ := mul_val .f32 fd fd E (by rw [hE]; decide)
  have r1 : rung .f32 p ≤ c1 := pl c1 i1 (by rw [sqz, w1]; exact Nat.mul_le_mul_right _ l3)
  have r2 : c2 ≤ rung .f32 p := pg c2 i2 (by rw [sqz, w2]; exact Nat.mul_le_mul_right _ l5)
  have fp : Fl.Fin .f32 p := Nat.lt_of_le_of_lt r1 i1
  rw [sd] at sp
  obtain ⟨q, hq, lq, sq, ql, qg⟩ := root_bounds fp sp E hE
  have q1 : rung .f32 q ≤ t1 := ql t1 j1 (by
    refine Nat.le_trans (Nat.mul_le_mul_right _ ((zv_le .f32).2 r1)) ?_
    rw [w1, y1', show (m / 4 + 2) * 4 * 2 ^ e * ((m / 4 + 2) * 4 * 2 ^ e) = (m / 4 + 2) * 4 * ((m / 4 + 2) * 4) * (2 ^ e * 2 ^ e) by ac_rfl]
    exact Nat.mul_le_mul_right _ l4)
  have q2 : t2 ≤ rung .f32 q := qg t2 j2 (by
    refine Nat.le_trans ?_ (Nat.mul_le_mul_right _ ((zv_le .f32).2 r2))
    rw [w2, y2', show (m / 4 - 1) * 4 * 2 ^ e * ((m / 4 - 1) * 4 * 2 ^ e) = (m / 4 - 1) * 4 * ((m / 4 - 1) * 4) * (2 ^ e * 2 ^ e) by ac_rfl]
    exact Nat.mul_le_mul_right _ l6)
  have fq : Fl.Fin .f32 q := Nat.lt_of_le_of_lt q1 j1
  have zq1 : zv .f32 (rung .f32 q) ≤ (m + 8) * 2 ^ e := by
    refine Nat.le_trans ((zv_le .f32).2 q1) ?_
    rw [y1']; exact Nat.mul_le_mul_right _ (by omega)
  have zq2 : (m - 7) * 2 ^ e ≤ zv .f32 (rung .f32 q) := by
    refine Nat.le_trans ?_ ((zv_le .f32).2 q2)
    rw [y2']; exact Nat.mul_le_mul_right _ (by omega)
  have hq0 : rung .f32 q ≠ 0 := by
    intro h
    rw [h, zv_zero] at zq2
    have := Nat.mul_pos (show 0 < m - 7 by omega) (Nat.two_pow_pos e)
    omega
  have ra : rung .f32 1065353232 = 1065353232 := by decide
  have rb : rung .f32 1065353184 = 1065353184 := by decide
  have pF : (2 : Nat) ^ E = 16777216 * F := by rw [hE]; exact zvT0 F hF
  obtain ⟨c, hc, hc1⟩ := div_size .f32 (t := 1065353232) fd fq (by show rung .f32 _ < _; rw [ra, ir]; decide) hq0 E (by rw [hE]; decide) (by
    rw [ra, zvT1 F hF, hz, pF]
    refine Nat.le_trans ?_ (Nat.mul_le_mul_left _ zq2)
    have h1 : m * 16777216 ≤ 16777248 * (m - 7) := up_le m1
    have h2 := Nat.mul_le_mul_right (2 ^ e * F) h1
    refine Nat.le_trans (Nat.le_of_eq ?_) (Nat.le_trans h2 (Nat.le_of_eq ?_)) <;> ac_rfl)
  obtain ⟨c', hc', hc2⟩ := div_low .f32 (t := 1065353184) fd fq (by show rung .f32 _ < _; rw [rb, ir]; decide) hq0 E (by rw [hE]; decide) (by
    rw [rb, zvT2 F hF, hz, pF]
    refine Nat.le_trans (Nat.mul_le_mul_left _ zq1) ?_
    have h1 : 16777184 * (m + 8) ≤ m * 16777216 := low_le m1
    have h2 := Nat.mul_le_mul_right (2 ^ e * F) h1
    refine Nat.le_trans (Nat.le_of_eq ?_) (Nat.le_trans h2 (Nat.le_of_eq ?_)) <;> ac_rfl)
  rw [hc] at hc'; injection hc' with hc'; subst hc'
  obtain ⟨c', hc', sc⟩ := div_sign .f32 fd fq hq0
  rw [hc] at hc'; injection hc' with hc'; subst hc'
  rw [ra] at hc1
  rw [rb] at hc2
  refine ⟨c, ?_, by rw [sc, sd, sq]; rfl, hc1, hc2⟩
  rw [show mu (some d) (some d) = some p from hp, hq]
  exact hc
/-- the law's comparisons of the likeness -/
theorem like_ord {c : Nat} (sc : sgn .f32 c = false) (h1 : rung .f32 c ≤ 1065353232) (h2 : 1065353184 ≤ rung .f32 c) :
    (FloatKind.f64.format.order (w64 c) 4607181518080091934 == some .gt) = true ∧ (FloatKind.f64.format.order (w64 c) 4607182869159980145 == some .lt) = true := by
  obtain ⟨D, hD⟩ : ∃ D : Nat, D = 925 := ⟨_, rfl⟩
  have fc : Fl.Fin .f32 c := by show rung .f32 c < _; rw [ir_f32]; omega
  obtain ⟨f1, s1, v1⟩ := wide_finD fc D hD
  have ra : rung .f32 1065353232 = 1065353232 := by decide
  have rb : rung .f32 1065353184 = 1065353184 := by decide
  obtain ⟨f2, s2, v2⟩ := wide_finD (b := 1065353232) (by show rung .f32 _ < _; rw [ra, ir_f32]; decide) D hD
  obtain ⟨f3, s3, v3⟩ := wide_finD (b := 1065353184) (by show rung .f32 _ < _; rw [rb, ir_f32]; decide) D hD
  have hi : rung .f64 (w64 c) ≤ rung .f64 (w64 1065353232) := (zv_le .f64).1 (by rw [v1, v2, ra]; exact Nat.mul_le_mul_right _ ((zv_le .f32).2 h1))
  have lo : rung .f64 (w64 1065353184) ≤ rung .f64 (w64 c) := (zv_le .f64).1 (by rw [v1, v3, rb]; exact Nat.mul_le_mul_right _ ((zv_le .f32).2 h2))
  have g1 : rung .f64 (w64 1065353232) < 4607182869159980145 := by decide +kernel
  have g2 : 4607181518080091934 < rung .f64 (w64 1065353184) := by decide +kernel
  have a1 : ab .f64 4607181518080091934 = some 4607181518080091934 := by rw [ab64]; rfl
  have a2 : ab .f64 4607182869159980145 = some 4607182869159980145 := by rw [ab64]; rfl
  have k1 : key .f64 4607181518080091934 = 4607181518080091934 := by decide +kernel
  have k2 : key .f64 4607182869159980145 = 4607182869159980145 := by decide +kernel
  have kc : key .f64 (w64 c) = (rung .f64 (w64 c) : Int) := by unfold key sg; rw [s1, sc]; rfl
  refine ⟨?_, ?_⟩
  · rw [order_key .f64 (fin_abK f1) a1, kc, k1, cmp_def, if_neg (by omega), if_neg (by omega)]; rfl
  · rw [order_key .f64 (fin_abK f1) a2, kc, k2, cmp_def, if_pos (by omega)]; rfl
set_option maxRecDepth 100000 in
theorem top_pl : ∀ i : Nat, i < 258 → plW i % 2147483648 ≤ plW 128 % 2147483648 := by decide +kernel
set_option maxRecDepth 100000 in
theorem top_it : ∀ n : Nat, n < 15 → ∃ w, itS (some (plW 128 % 2147483648)) n = some w ∧ rung .f32 w ≤ 1160000000 := by
  have : (List.range 15).all (fun n => match itS (some (plW 128 % 2147483648)) n with | some w => decide (rung .f32 w ≤ 1160000000) | none => false) = true := by decide +kernel
  intro n hn
  have h := List.all_eq_true.1 this n (List.mem_range.2 hn)
  cases e : itS (some (plW 128 % 2147483648)) n with
  | none => rw [e] at h; exact absurd h Bool.false_ne_true
  | some w => rw [e] at h; exact ⟨w, rfl, of_decide_eq_true h⟩
set_option maxRecDepth 100000 in
theorem sq_tab : ∀ i : Nat, i < 258 → (plW i % 2147483648 = 0 ∨ (match mu (some (plW i)) (some (plW i)) with | some q => decide (998244352 ≤ rung .f32 q) | none => false) = true) := by decide +kernel
/-- the dot of a list of plain numbers with itself -/
theorem dot_plain (xs : List Nat) {n : Nat} (hn : n ≤ 14) (hp : ∀ j, j < n → Pl (ab .f32 (wd xs j))) :
    ∃ d, dotO xs xs n = some d ∧ sgn .f32 d = false ∧ rung .f32 d ≤ 1160000000 ∧ ((∃ j, j < n ∧ sizeN (wd xs j) ≠ 0) → 998244352 ≤ rung .f32 d) := by
  have h64 : plW 64 % 2147483648 = 0 := by decide
  have hx : ∀ j, j < n → ∃ x, ab .f32 (wd xs j) = some x ∧ rung .f32 x ≤ rung .f32 (plW 128 % 2147483648) ∧ rung .f32 (plW 64 % 2147483648) ≤ rung .f32 x := by
    intro j hj
    obtain ⟨i, hi, e⟩ := hp j hj
    have h1 := top_pl i hi
    exact ⟨plW i, e, by rw [rung32, rung32]; omega, by rw [h64, show rung .f32 0 = 0 by decide]; exact Nat.zero_le _⟩
  have base := dot_between xs hn (show 128 < 258 by decide) (show 64 < 258 by decide) hx
  obtain ⟨d, u, w, e1, e2, e3, r1, r2, s1⟩ := base n (Nat.le_refl _)
  obtain ⟨w', e4, hw⟩ := top_it n (by omega)
  rw [e3] at e4; injection e4 with e4; subst e4
  refine ⟨d, e1, s1, Nat.le_trans r2 hw, ?_⟩
  rintro ⟨j, hj, h0⟩
  -- each square is at most the dot behind it
  have go : ∀ k, k ≤ n → j < k → ∃ v, dotO xs xs k = some v ∧ 998244352 ≤ rung .f32 v := by
    intro k
    induction k with
    | zero => intro _ h; omega
    | succ k ih =>
      intro hk hjk
      obtain ⟨d1, u1, w1, f1, _, f3, _, r3, s3⟩ := base k (by omega)
      obtain ⟨w2, f4, hw2⟩ := top_it k (by omega)
      rw [f3] at f4; injection f4 with f4; subst f4
      have fd1 : Fl.Fin .f32 d1 := by show rung .f32 d1 < _; rw [ir_f32]; omega
      obtain ⟨i, hi, e⟩ := hp k (by omega)
      obtain ⟨x, ex, hx1, _⟩ := hx k (by omega)
      rw [e] at ex; injection ex with ex; subst ex
      obtain ⟨q, hq, fq, sq⟩ := sq_fin (x := plW i) (by have := (pl_small i hi).2; rw [rung32]; omega)
      obtain ⟨v, hv, R, _⟩ := add_val .f32 fd1 fq
      have v1 : sv .f32 d1 = (zv .f32 (rung .f32 d1) : Int) := by unfold sv sg; rw [s3]; rfl
      have v2 : sv .f32 q = (zv .f32 (rung .f32 q) : Int) := by unfold sv sg; rw [sq]; rfl
      rw [v1, v2] at R
      have ev : dotO xs xs (k + 1) = some v := by
        show opO .add .f32 (dotO xs xs k) (opO .mul .f32 (ab .f32 (wd xs k)) (ab .f32 (wd xs k))) = _
        rw [f1, e, show opO .mul .f32 (some (plW i)) (some (plW i)) = some q from hq]; exact hv
      refine ⟨v, ev, R.ge 998244352 (by rw [ir_f32]; decide) ?_⟩
      have hn' : ((zv .f32 (rung .f32 d1) : Int) + (zv .f32 (rung .f32 q) : Int)).natAbs = zv .f32 (rung .f32 d1) + zv .f32 (rung .f32 q) := by omega
      rw [hn']
      by_cases hjk2 : j < k
      · obtain ⟨v', g1, g2⟩ := ih (by omega) hjk2
        rw [f1] at g1; injection g1 with g1; subst g1
        have := (zv_le .f32).2 g2
        omega
      · have hjk3 : j = k := by omega
        subst hjk3
        have e5 := ab_some e
        rw [← e5] at h0
        unfold sizeN at h0
        rcases sq_tab i hi with h | h
        · exact absurd h h0
        · rw [show mu (some (plW i)) (some (plW i)) = some q from hq] at h
          have := (zv_le .f32).2 (of_decide_eq_true h)
          omega
  obtain ⟨v, g1, g2⟩ := go n (Nat.le_refl _) hj
  rw [e1] at g1; injection g1 with g1; subst g1
  exact g2
/-- the root of the mean of squares of plain numbers is a number that is not negative -/
theorem mean_fin (xs : List Nat) {n : Nat} (h1 : 1 ≤ n) (hn : n ≤ 14) (hp : ∀ j, j < n → Pl (ab .f32 (wd xs j))) :
    ∃ r, meanO xs n = some r ∧ sgn .f32 r = false ∧ rung .f32 r ≤ 1160000000 := by
  obtain ⟨d, e1, s1, r1, _⟩ := dot_plain xs hn hp
  obtain ⟨E, hE⟩ : ∃ E : Nat, E = 149 := ⟨_, rfl⟩
  have fd : Fl.Fin .f32 d := by show rung .f32 d < _; rw [ir_f32]; omega
  obtain ⟨k1, k2, k3⟩ := fi_small n (by omega)
  have k2' : rung .f32 (fI (n : Int)) ≠ 0 := by rcases k2 with h | h <;> omega
  have fn : Fl.Fin .f32 (fI (n : Int)) := by show rung .f32 _ < _; rw [ir_f32]; exact k1
  have one : ∀ n : Nat, n < 20 → n = 0 ∨ 1065353216 ≤ rung .f32 (fI (n : Int)) := by decide +kernel
  have hone : 2 ^ E ≤ zv .f32 (rung .f32 (fI (n : Int))) := by
    rw [hE, ← zv_one]
    exact (zv_le .f32).2 (by rcases one n (by omega) with h | h <;> omega)
  obtain ⟨x, hx, hx2⟩ := div_size .f32 (t := d) fd fn fd k2' E (by rw [hE]; decide) (Nat.mul_le_mul_left _ hone)
  obtain ⟨x', hx', sx⟩ := div_sign .f32 fd fn k2'
  rw [hx] at hx'; injection hx' with hx'; subst hx'
  rw [s1, k3] at sx
  have fx : Fl.Fin .f32 x := Nat.lt_of_le_of_lt hx2 fd
  obtain ⟨r, g1, g2, g3, g4, g5⟩ := root_bounds fx sx E hE
  refine ⟨r, ?_, g3, g4 1160000000 (by rw [ir_f32]; decide) ?_⟩
  · unfold meanO
    rw [e1, show qu (some d) (some (fI (n : Int))) = some x from hx]
    exact g1
  · refine Nat.mul_le_mul ((zv_le .f32).2 (Nat.le_trans hx2 r1)) ?_
    rw [hE, ← zv_one]
    exact (zv_le .f32).2 (by decide)
end Go.Proofs.Ytfgebggfoboalaa

/- Dynamics: squeezed samples, the model's. -/
set_option linter.unusedVariables false
set_option linter.unusedSimpArgs false
namespace Go.Proofs.Ytfgebggfoboalaa
open Fl Go.RowKit
structure SquN where
  a : Nat
  r : Nat
  l : Nat
  t : Nat
  q : Nat
structure Squ where
  a : O
  r : O
  l : O
  t : O
  q : O
def SquN.val (d : SquN) : Value := .agg #[.float .f32 d.a, .float .f32 d.r, .float .f32 d.l, .float .f32 d.t, .float .f32 d.q]
structure FvSqu (d : SquN) (D : Squ) : Prop where
  a : Hid (Fv .f32 d.a D.a)
  r : Hid (Fv .f32 d.r D.r)
  l : Hid (Fv .f32 d.l D.l)
  t : Hid (Fv .f32 d.t D.t)
  q : Hid (Fv .f32 d.q D.q)
def PLQB (n0 : Nat) (f0 : Nat → Option Nat) (S : Squ) (b : Bool) (w : World) (e : Ending) (w' : World) : Prop :=
  ∃ (p : Ls) (c : Nat) (s : SquN), e = .returned (.tuple #[.slice p.A p.n c, s.val, .bool b]) ∧ p.n = n0 ∧ Gs 26 w' w.heap.size p.A p.n p.xs ∧ Are p f0 ∧ FvSqu s S ∧ w.Since w.heap.size w'
structure SquAt (w : World) (g a r l t q : Nat) : Prop where
  f : FolAt w g a r l
  t : w.cell? ⟨g, 3, none⟩ = some (.float .f32 t)
  q : w.cell? ⟨g, 4, none⟩ = some (.float .f32 q)
def sqL (D : Squ) (Y : Nat → O) (k : Nat) : O := levO ⟨D.a, D.r, D.l⟩ Y k
def sqO (D : Squ) (X Y : Nat → O) (k : Nat) : O := mu (X k) (gainO (sqL D Y (k + 1)) D.t D.q)
theorem gainO_ex {l t r : Nat} {L T R : O} (hl : Hid (Fv .f32 l L)) (ht : Hid (Fv .f32 t T)) (hr : Hid (Fv .f32 r R)) : ∃ q, Fv .f32 q (gainO L T R) := by
  unfold gainO
  cases gtO L T
  · exact ⟨_, fv1.out⟩
  · obtain ⟨d, hd⟩ := Lo.fv_ex (op := .sub) rfl .f32 _ _ _ _ hl.out ht.out
    obtain ⟨p, hp⟩ := Lo.fv_ex (op := .quo) rfl .f32 _ _ _ _ hd hr.out
    obtain ⟨s, hs⟩ := Lo.fv_ex (op := .add) rfl .f32 _ _ _ _ ht.out hp
    exact Lo.fv_ex (op := .quo) rfl .f32 _ _ _ _ hs hl.out
/-- the list and the squeeze behind it -/
def PLQ (n0 : Nat) (f0 : Nat → Option Nat) (S : Squ) (w : World) (e : Ending) (w' : World) : Prop :=
  ∃ (p : Ls) (c : Nat) (s : SquN), e = .returned (.tuple #[.slice p.A p.n c, s.val]) ∧ p.n = n0 ∧ Gs 26 w' w.heap.size p.A p.n p.xs ∧ Are p f0 ∧ FvSqu s S ∧ w.Since w.heap.size w'
end Go.Proofs.Ytfgebggfoboalaa

/- Dynamics: RunSqueeze and DuckSamples of the model. -/
set_option linter.unusedVariables false
set_option linter.unusedSimpArgs false
namespace Go.Proofs.Ytfgebggfoboalaa
open Fl Go.RowKit
theorem PLQB.none_ {w w' : World} (s : w.Since w.heap.size w') (f0 : Nat → Option Nat) : PLQB 0 f0 ⟨some 0, some 0, some 0, some 0, some 0⟩ false w (.returned (.tuple #[.slice none 0 0, .agg #[.float .f32 0, .float .f32 0, .float .f32 0, .float .f32 0, .float .f32 0], .bool false])) w' :=
  ⟨⟨none, 0, []⟩, 0, ⟨0, 0, 0, 0, 0⟩, rfl, rfl, Gs.nil_, (fun k hk => by simp at hk), ⟨fv0, fv0, fv0, fv0, fv0⟩, s⟩
end Go.Proofs.Ytfgebggfoboalaa

/- Dynamics: DuckSamples and RunSqueeze of the program. -/
set_option linter.unusedVariables false
set_option linter.unusedSimpArgs false
namespace Go.Proofs.Ytfgebggfoboalaa
open Fl Go.RowKit
theorem implPair_b (A C : Option Addr) (n m c c2 : Nat) (b : Bool) (w : World) (hn : n ≤ 9223372036854775807) (h : (decide (n ≤ 256 ∧ m = n)) = b) :
    Calls Try.prog 39 #[.slice A n c, .slice C m c2] w fun e w' => e = .returned (.bool b) ∧ w' = w := by
  by_cases h1 : (n : Int) = (m : Int)
  · have e2 : b = decide ((n : Int) ≤ 256) := by
      rw [← h]
      by_cases h3 : n ≤ 256
      · rw [decide_eq_true ⟨h3, by omega⟩, decide_eq_true (by omega)]
      · rw [decide_eq_false (fun h => h3 h.1), decide_eq_false (by omega)]
    clear h
    cases h5 : decide ((n : Int) ≤ 256)
    all_goals
      rw [h5] at e2
      subst e2
      obtain rfl : m = n := by omega
      go_enter Try.func39, Try.ntmps39
      go_wp2_with (first | (go_at_call 25; refine (implSamples_b _ _ _ _ _ h5).mono ?_; rintro e w' ⟨rfl, rfl⟩))
      go_ret
      exact ⟨rfl, rfl⟩
  · have e2 : b = false := by rw [← h]; exact decide_eq_false (fun h => h1 (by omega))
    subst e2
    clear h
    go_enter Try.func39, Try.ntmps39
    go_wp2
    go_ret
    exact ⟨rfl, rfl⟩
theorem PLQB.later {n0 : Nat} {f0 : Nat → O} {S : Squ} {b : Bool} {w w1 w2 : World} {e : Ending} (h : PLQB n0 f0 S b w1 e w2) (s : w.Since w.heap.size w1) : PLQB n0 f0 S b w e w2 := by
  obtain ⟨p, c, d, h1, h2, h3, h4, h5, h6⟩ := h
  exact ⟨p, c, d, h1, h2, h3.less s.size, h4, h5, since_step s h6⟩
end Go.Proofs.Ytfgebggfoboalaa

/- Squeezes of a law. -/
set_option linter.unusedVariables false
set_option linter.unusedSimpArgs false
namespace Go.Proofs.Ytfgebggfoboalaa
open Fl Go.RowKit
end Go.Proofs.Ytfgebggfoboalaa

/- Gains are at most 1; a squeeze that is drawn. -/
set_option linter.unusedVariables false
set_option linter.unusedSimpArgs false
namespace Go.Proofs.Ytfgebggfoboalaa
open Fl Go.RowKit Ieee
def tL : List Nat := [0, 1031798784, 1040187392, 1044381696, 1048576000, 1050673152, 1052770304, 1054867456, 1056964608, 1058013184, 1059061760, 1060110336, 1061158912, 1062207488, 1063256064, 1064304640, 1065353216]
def tW (k : Nat) : Nat := tL.getD k 0
theorem tW_tab : ∀ k : Nat, k < 17 → opO .quo .f32 (some (fI (k : Int))) (some 1098907648) = some (tW k) ∧ zv .f32 (rung .f32 (tW k)) = k * 2 ^ 145 ∧ tW k < 4294967296 ∧ rung .f32 (tW k) ≤ 1065353216 ∧ sgn .f32 (tW k) = false := by decide +kernel
theorem tW_nn {k : Nat} (h : k < 17) : Nn 1065353216 (tW k) := by
  obtain ⟨_, _, h1, h2, h3⟩ := tW_tab k h
  exact ⟨h1, Nat.lt_of_le_of_lt h2 (by decide), h3, h2⟩
theorem rW_tab : ∀ j : Nat, j < 8 → ab .f32 (fI (1 + (j : Int))) = some (fI (1 + (j : Int))) ∧ fI (1 + (j : Int)) < 4294967296 ∧ 2 ^ 149 ≤ zv .f32 (rung .f32 (fI (1 + (j : Int)))) ∧ sgn .f32 (fI (1 + (j : Int))) = false ∧ rung .f32 (fI (1 + (j : Int))) ≠ 0 ∧ rung .f32 (fI (1 + (j : Int))) < 2139095040 := by decide +kernel
/-- a gain is from 0 to 1 -/
theorem gain_le {l k j : Nat} (hl : Nn 1092000000 l) (hk : k < 17) (hj : j < 8) :
    ∃ g, gainO (some l) (some (tW k)) (some (fI (1 + (j : Int)))) = some g ∧ Nn 1065353216 g ∧ (gtO (some l) (some (tW k)) = false → g = 1065353216) := by
  have ht := tW_nn hk
  obtain ⟨_, zt, _⟩ := tW_tab k hk
  obtain ⟨_, rl, rz, rs, r0, rf⟩ := rW_tab j hj
  have fr : Fl.Fin .f32 (fI (1 + (j : Int))) := by show rung .f32 _ < _; rw [ir_f32]; exact rf
  generalize fI (1 + (j : Int)) = r at *
  generalize tW k = t at *
  unfold gainO
  cases hg : gtO (some l) (some t)
  · exact ⟨1065353216, rfl, ⟨by decide, by show rung .f32 1065353216 < _; decide, by decide, by decide⟩, fun _ => rfl⟩
  · rw [nn_gt hl ht] at hg
    have hlt := of_decide_eq_true hg
    obtain ⟨m, e, hz, hform, hm⟩ := rung_form .f32 (rung .f32 l)
    have he := form_e (C := 1092000001) (E := 145) hform (by have := hl.le; omega) (by decide)
    have zle := (zv_lt .f32).2 hlt
    -- the difference is a number of the format
    obtain ⟨u, hu⟩ : ∃ u, u + e = 145 := ⟨145 - e, by omega⟩
    have ztu : zv .f32 (rung .f32 t) = k * 2 ^ u * 2 ^ e := by rw [zt, ← hu, Nat.pow_add, Nat.mul_assoc]
    have hkm : k * 2 ^ u ≤ m := by
      rw [ztu, hz] at zle
      exact Nat.le_of_lt (Nat.lt_of_mul_lt_mul_right zle)
    obtain ⟨q, hq, hzq⟩ := rep .f32 (m := m - k * 2 ^ u) (e := e) (Nat.lt_of_le_of_lt (Nat.sub_le _ _) hm) (by
      rw [ir_f32, show FloatKind.f32.format.binade = 8388608 from by decide]; omega)
    obtain ⟨d, hd, fd, vd⟩ := sub_exact .f32 hl.fin ht.fin hq (by
      rw [sv_nn hl, sv_nn ht, hzq, Nat.sub_mul, ← hz, ← ztu]; omega)
    rw [sv_nn hl, sv_nn ht] at vd
    have ld := opw_lt rfl hl.lt ht.lt hl.fin ht.fin hd
    have sd : sgn .f32 d = false := by
      cases h : sgn .f32 d
      · rfl
      · unfold sv sg at vd
        rw [h, if_pos rfl] at vd
        omega
    have nd : Nn (rung .f32 d) d := ⟨ld, fd, sd, Nat.le_refl _⟩
    rw [sv_nn nd] at vd
    obtain ⟨x, hx, hxle⟩ := div_size .f32 fd fr fd r0 149 (by decide) (Nat.mul_le_mul_left _ rz)
    obtain ⟨x', hx', sx⟩ := div_sign .f32 fd fr r0
    rw [hx] at hx'; injection hx' with hx'; subst hx'
    have nx : Nn (rung .f32 d) x := ⟨opw_lt rfl ld rl fd fr hx, Nat.lt_of_le_of_lt hxle fd, by rw [sx, sd, rs]; rfl, hxle⟩
    obtain ⟨s, hs, hR, h0⟩ := add_val .f32 ht.fin nx.fin
    rw [sv_nn ht, sv_nn nx] at hR h0
    have z1 := (zv_le .f32).2 hxle
    have hsl : rung .f32 s ≤ rung .f32 l := hR.le _ hl.fin (by omega)
    have ls := opw_lt rfl ht.lt nx.lt ht.fin nx.fin hs
    have ns : Nn (rung .f32 l) s := ⟨ls, Nat.lt_of_le_of_lt hsl hl.fin, by
      by_cases hv : (zv .f32 (rung .f32 t) : Int) + (zv .f32 (rung .f32 x) : Int) = 0
      · rw [h0 hv, ht.sgn]; rfl
      · rw [hR.sgn hv]; exact decide_eq_false (by omega), hsl⟩
    have l0 : rung .f32 l ≠ 0 := by omega
    have one : Fl.Fin .f32 1065353216 := by show rung .f32 1065353216 < _; decide
    obtain ⟨g, hgq, hgle⟩ := div_size .f32 ns.fin hl.fin one l0 149 (by decide) (by
      rw [show rung .f32 1065353216 = 1065353216 from by decide, zv_one, Nat.mul_comm]
      exact Nat.mul_le_mul_left _ ((zv_le .f32).2 hsl))
    obtain ⟨g', hg', sg'⟩ := div_sign .f32 ns.fin hl.fin l0
    rw [hgq] at hg'; injection hg' with hg'; subst hg'
    rw [show rung .f32 1065353216 = 1065353216 from by decide] at hgle
    refine ⟨g, ?_, ⟨opw_lt rfl ls hl.lt ns.fin hl.fin hgq, Nat.lt_of_le_of_lt hgle (by decide), by rw [sg', ns.sgn, hl.sgn]; rfl, hgle⟩, fun h => absurd h (by decide)⟩
    show opO .quo .f32 (opO .add .f32 (some t) (opO .quo .f32 (opO .sub .f32 (some l) (some t)) (some r))) (some l) = _
    rw [show opO .sub .f32 (some l) (some t) = some d from hd, show opO .quo .f32 (some d) (some r) = some x from hx, show opO .add .f32 (some t) (some x) = some s from hs]
    exact hgq
theorem sinceSetQ {w a : World} (h : w.Since w.heap.size a) (o : Nat) (v : Value) : w.Since w.heap.size (a.setCell ⟨w.heap.size, o, none⟩ v) := h.setCell (Nat.le_refl _) _
theorem srcOwn {B b K g : Nat} {w : World} (h : Src B b K w) (hg : b < g) (o : Nat) (v : Value) : Src B b K (w.setCell ⟨g, o, none⟩ v) :=
  h.on ((World.Since.refl _ _).setCell (show b + 1 ≤ g by omega) _)
/-- a squeeze with shares from 0 to 1, a threshold of at least 0 and a ratio of at least 1 -/
def PSqu (w : World) (e : Ending) (w' : World) : Prop := ∃ (i1 i2 i3 j : Nat) (d : SquN), e = .returned d.val ∧ i1 < 17 ∧ i2 < 17 ∧ i3 < 17 ∧ j < 8 ∧ FvSqu d ⟨some (tW i1), some (tW i2), some 0, some (tW i3), some (fI (1 + (j : Int)))⟩ ∧ w.Since w.heap.size w'
end Go.Proofs.Ytfgebggfoboalaa

/- The law of squeezed samples. -/
set_option linter.unusedVariables false
set_option linter.unusedSimpArgs false
namespace Go.Proofs.Ytfgebggfoboalaa
open Fl Go.RowKit
theorem nn_ord {c d x y : Nat} (hx : Nn c x) (hy : Nn d y) : FloatKind.f32.format.order x y = some (compare (rung .f32 x : Int) (rung .f32 y : Int)) := by
  rw [order_key .f32 (fin_abK hx.fin) (fin_abK hy.fin)]
  unfold key
  rw [hx.sgn, hy.sgn]
  rfl
theorem fs_cell_any {w : World} {B n : Nat} {A : Option Addr} {xs : List Nat} (h : Fs w B A n xs) (hn : 0 < n) : ∃ g o, A = some ⟨g, o, none⟩ ∧ g < B ∧ ∀ k, k < n → w.cell? ⟨g, o + k, none⟩ = some (.float .f32 (wd xs k)) := by
  obtain ⟨g, o, e, hg, hc⟩ := h.2.2 hn
  exact ⟨g, o, e, hg, fun k hk => hc k hk⟩
theorem fs_cell0 {w : World} {B n g k : Nat} {xs : List Nat} (h : Fs w B (some ⟨g, 0, none⟩) n xs) (hk : k < n) : w.cell? ⟨g, k, none⟩ = some (.float .f32 (wd xs k)) ∧ g < B := by
  obtain ⟨g', off, e, hg, hc⟩ := h.2.2 (by omega)
  injection e with e
  injection e with e1 e2 _
  subst e1; subst e2
  have := hc k hk
  rw [Nat.zero_add] at this
  exact ⟨this, hg⟩
theorem same_any (a b : Nat) (X : O) (w : World) (ha : Hid (Fv .f32 a X)) (hb : Hid (Fv .f32 b X)) : Calls Try.prog 16 #[.float .f32 a, .float .f32 b] w fun e w' => e = .returned (.bool true) ∧ w = w' :=
  (implSame_any a b w ha.out.1 hb.out.1).mono fun e w' ⟨h1, h2⟩ => ⟨by rw [h1, ha.out.2, hb.out.2, decide_eq_true rfl], h2⟩
theorem sq_cases {c d l t g : Nat} (nl : Nn c l) (nt : Nn d t) (ng : Nn 1065353216 g) (h : gtO (some l) (some t) = false → g = 1065353216) :
    (FloatKind.f32.format.order l t = some .gt ∧ FloatKind.f32.format.order g 0 = some .eq ∧ FloatKind.f32.format.order g 1065353216 = some .lt) ∨
    (FloatKind.f32.format.order l t = some .gt ∧ FloatKind.f32.format.order g 0 = some .gt ∧ FloatKind.f32.format.order g 1065353216 = some .lt) ∨
    (FloatKind.f32.format.order l t = some .gt ∧ FloatKind.f32.format.order g 0 = some .gt ∧ FloatKind.f32.format.order g 1065353216 = some .eq) ∨
    (FloatKind.f32.format.order l t = some .eq ∧ FloatKind.f32.format.order g 0 = some .gt ∧ FloatKind.f32.format.order g 1065353216 = some .eq) ∨
    (FloatKind.f32.format.order l t = some .lt ∧ FloatKind.f32.format.order g 0 = some .gt ∧ FloatKind.f32.format.order g 1065353216 = some .eq) := by
  have n0 : Nn 0 0 := ⟨by decide, by show rung .f32 0 < _; decide, by decide, by decide⟩
  have n1 : Nn 1065353216 1065353216 := ⟨by decide, by show rung .f32 1065353216 < _; decide, by decide, by decide⟩
  have e0 : rung .f32 0 = 0 := by decide
  have e1 : rung .f32 1065353216 = 1065353216 := by decide
  rw [nn_gt nl nt] at h
  have gl := ng.le
  rw [nn_ord nl nt, nn_ord ng n0, nn_ord ng n1, e0, e1, cmp_def, cmp_def, cmp_def]
  rcases Nat.lt_trichotomy (rung .f32 l) (rung .f32 t) with h1 | h1 | h1
  · have hg := h (decide_eq_false (by omega))
    have hr : rung .f32 g = 1065353216 := by rw [hg]; exact e1
    rw [hr, if_pos (by omega)]
    right; right; right; right
    exact ⟨rfl, by decide, by decide⟩
  · have hg := h (decide_eq_false (by omega))
    have hr : rung .f32 g = 1065353216 := by rw [hg]; exact e1
    rw [hr, if_neg (by omega), if_pos (by omega)]
    right; right; right; left
    exact ⟨rfl, by decide, by decide⟩
  · rw [if_neg (by omega), if_neg (by omega)]
    by_cases h2 : rung .f32 g = 0
    · rw [h2]; left; exact ⟨rfl, by decide, by decide⟩
    · by_cases h3 : rung .f32 g = 1065353216
      · rw [h3]; right; right; left; exact ⟨rfl, by decide, by decide⟩
      · right; left
        refine ⟨rfl, ?_, ?_⟩
        · rw [if_neg (by omega), if_neg (by omega)]
        · rw [if_pos (by omega)]
end Go.Proofs.Ytfgebggfoboalaa

/- The law of channels. -/
set_option linter.unusedVariables false
set_option linter.unusedSimpArgs false
namespace Go.Proofs.Ytfgebggfoboalaa
open Fl Go.RowKit
theorem okTwo_self {n : Nat} (h1 : 1 ≤ n) (h2 : n ≤ 256) : okTwo n n = true := by
  unfold okTwo; rw [decide_eq_true h2, decide_eq_true (show 0 < n by omega), decide_eq_true rfl]; rfl
theorem pl_abC {i : Nat} (h : i < 258) : ab .f32 (plW i % 2147483648) = some (plW i % 2147483648) := by
  have := (pl_small i h).2
  rw [ab32, if_neg (by omega)]
set_option maxHeartbeats 32000000 in
set_option maxRecDepth 100000 in
theorem lawChannels_any (A : Option Addr) (n c : Nat) (xs : List Int) (B : Option Addr) (m d : Nat) (ys : List Int) (w : World) (hA : Bs w w.heap.size A n xs) (hB : Bs w w.heap.size B m ys) :
    Calls Try.prog 4 #[.slice A n c, .slice B m d] w fun e w' => e = .returned (.bool true) ∧ w.Since w.heap.size w' := by
  have HA := Lib.hid hA; have HB := Lib.hid hB; clear hA hB
  cases hl : (decide ((48 : Int) < n) || decide ((48 : Int) < m))
  case true =>
    go_enter Try.func4, Try.ntmps4
    go_wp2_with fail
    refine (r8Long_any A B n c m d true w hl).mono ?_
    rintro e w1 ⟨rfl, hs⟩
    have S1 := Lib.hid hs; clear hs
    go_wp2
    go_ret
    exact ⟨rfl, S1.out⟩
  case false =>
    have hnm : n ≤ 48 ∧ m ≤ 48 := by simp only [Bool.or_eq_false_iff, decide_eq_false_iff_not] at hl; omega
    go_enter Try.func4, Try.ntmps4
    go_wp2_with fail
    refine (r8Long_any A B n c m d false w hl).mono ?_
    rintro e w1 ⟨rfl, hs⟩
    have S1 := Lib.hid hs; clear hs hl
    go_wp2_with fail
    refine (r8At_any A n c xs 40 10 w1 ((HA.out.since S1.out (Nat.le_refl _)).more S1.out.size) (by omega) (by omega)).mono ?_
    rintro e w2 ⟨v, rfl, v0, v1, hs⟩
    have S2 := Lib.hid (since_step S1.out hs); clear hs S1
    have hv1 : v < 10 := v1 (by omega)
    obtain ⟨k, ek, h91, h99⟩ : ∃ k : Nat, 1 + v = (k : Int) ∧ 1 ≤ k ∧ k ≤ 10 := ⟨(1 + v).toNat, by omega, by omega, by omega⟩
    have dk : Hid (1 ≤ k ∧ k ≤ 10) := Lib.hid ⟨h91, h99⟩
    go_wp2_with fail
    clear v0 v1 hv1 h91 h99 ek
    refine (plainsW_any A n c xs k w2 ((HA.out.since S2.out (Nat.le_refl _)).more S2.out.size) (by omega) (by have := dk.out; omega)).mono ?_
    rintro e w3 ⟨g, cp, us, rfl, hcp, hg, hpl, hs⟩
    have G3 := Lib.hid hg.read
    have S3 := Lib.hid (since_step S2.out hs)
    have HU := Lib.hid hpl.out
    clear hs hg S2 hpl
    go_wp2_with fail
    refine (plainsW_any B m d ys k w3 ((HB.out.since S3.out (Nat.le_refl _)).more S3.out.size) (by omega) (by have := dk.out; omega)).mono ?_
    rintro e w4 ⟨g2, cp2, vs, rfl, hcp2, hg, hpl, hs⟩
    have G4 := Lib.hid ((G3.out.since hs).more hs.size)
    have R4 := Lib.hid hg.read
    have S4 := Lib.hid (since_step S3.out hs)
    have HV := Lib.hid hpl.out
    clear hs hg S3 hpl G3
    as_aux_lemma =>
      obtain ⟨l, hl, sl, rl⟩ := mean_fin us dk.out.1 (by have := dk.out; omega) HU.out
      obtain ⟨r, hr, sr, rr⟩ := mean_fin vs dk.out.1 (by have := dk.out; omega) HV.out
      obtain ⟨x, y, z, hx, hy, hz, oxy, oz, o1, o2⟩ := bal_all rl rr sl sr
      have KX := Lib.hid hx; have KY := Lib.hid hy; have KZ := Lib.hid hz; have OXY := Lib.hid oxy; have OZ := Lib.hid oz; have O1 := Lib.hid o1; have O2 := Lib.hid o2
      have KL := Lib.hid hl; have KR := Lib.hid hr
      have OK := Lib.hid (okTwo_self (n := k) dk.out.1 (by have := dk.out; omega))
      obtain ⟨ip, hip, hpp, hX⟩ := peak_plain us G4.out.2.1 HU.out
      have HIP := Lib.hid hip; have HPP := Lib.hid hpp; have HP := Lib.hid G4.out.2.1
      obtain ⟨D, hD, sD, rD, hD0⟩ := dot_plain us (by have := dk.out; omega) HU.out
      have KD := Lib.hid hD; have D0 := Lib.hid hD0
      clear hx hy hz oxy oz o1 o2 hl hr hip hpp hX hD hD0
      go_wp2_with fail
      refine (implLike_any (some ⟨g, 0, none⟩) k cp us (some ⟨g2, 0, none⟩) k cp2 vs w4 G4.out (by have := dk.out; omega) R4.out (by have := dk.out; omega) (likeO us vs k) (Lib.hid (by rw [OK.out]; rfl))).mono ?_
      rintro e w5 ⟨q0, rfl, hq, hs⟩
      have S5 := Lib.hid (since_step S4.out hs); have G5 := Lib.hid ((G4.out.since hs).more hs.size); have R5 := Lib.hid ((R4.out.since hs).more hs.size); have F0 := Lib.hid hq
      rw [OK.out]
      clear hs hq S4 G4 R4
      go_wp2_with fail
      refine (implLike_any (some ⟨g2, 0, none⟩) k cp2 vs (some ⟨g, 0, none⟩) k cp us w5 R5.out (by have := dk.out; omega) G5.out (by have := dk.out; omega) (likeO us vs k) (Lib.hid (by rw [OK.out, like_comm]; rfl))).mono ?_
      rintro e w6 ⟨q1, rfl, hq, hs⟩
      have S6 := Lib.hid (since_step S5.out hs); have G6 := Lib.hid ((G5.out.since hs).more hs.size); have R6 := Lib.hid ((R5.out.since hs).more hs.size); have F1 := Lib.hid hq
      rw [OK.out]
      clear hs hq S5 G5 R5
      go_wp2_with fail
      refine (implLike_any (some ⟨g, 0, none⟩) k cp us (some ⟨g, 0, none⟩) k cp us w6 G6.out (by have := dk.out; omega) G6.out (by have := dk.out; omega) (likeO us us k) (Lib.hid (by rw [OK.out]; rfl))).mono ?_
      rintro e w7 ⟨q2, rfl, hq, hs⟩
      have S7 := Lib.hid (since_step S6.out hs); have G7 := Lib.hid ((G6.out.since hs).more hs.size); have R7 := Lib.hid ((R6.out.since hs).more hs.size); have F2 := Lib.hid hq
      rw [OK.out]
      clear hs hq S6 G6 R6
      go_wp2_with fail
      refine (implBal_any (some ⟨g, 0, none⟩) k cp us (some ⟨g2, 0, none⟩) k cp2 vs w7 G7.out (by have := dk.out; omega) R7.out (by have := dk.out; omega) (some x) (Lib.hid (by rw [OK.out, KL.out, KR.out, KX.out]; rfl))).mono ?_
      rintro e w8 ⟨q3, rfl, hq, hs⟩
      have S8 := Lib.hid (since_step S7.out hs); have G8 := Lib.hid ((G7.out.since hs).more hs.size); have R8 := Lib.hid ((R7.out.since hs).more hs.size); have F3 := Lib.hid hq
      rw [OK.out]
      clear hs hq S7 G7 R7
      go_wp2_with fail
      refine (implBal_any (some ⟨g2, 0, none⟩) k cp2 vs (some ⟨g, 0, none⟩) k cp us w8 R8.out (by have := dk.out; omega) G8.out (by have := dk.out; omega) (some y) (Lib.hid (by rw [OK.out, KL.out, KR.out, KY.out]; rfl))).mono ?_
      rintro e w9 ⟨q4, rfl, hq, hs⟩
      have S9 := Lib.hid (since_step S8.out hs); have G9 := Lib.hid ((G8.out.since hs).more hs.size); have R9 := Lib.hid ((R8.out.since hs).more hs.size); have F4 := Lib.hid hq
      rw [OK.out]
      clear hs hq S8 G8 R8
      go_wp2_with fail
      refine (implBal_any (some ⟨g, 0, none⟩) k cp us (some ⟨g, 0, none⟩) k cp us w9 G9.out (by have := dk.out; omega) G9.out (by have := dk.out; omega) (some z) (Lib.hid (by rw [OK.out, KL.out, KZ.out]; rfl))).mono ?_
      rintro e w10 ⟨q5, rfl, hq, hs⟩
      have S10 := Lib.hid (since_step S9.out hs); have G10 := Lib.hid ((G9.out.since hs).more hs.size); have R10 := Lib.hid ((R9.out.since hs).more hs.size); have F5 := Lib.hid hq
      rw [OK.out]
      clear hs hq S9 G9 R9
      go_wp2_with fail
      have KP : Hid (Calls Try.prog 12 #[.slice (some ⟨g, 0, none⟩) k cp] w10 (RetFB .f32 (some (plW ip % 2147483648)) true w10)) := Lib.hid (by
        have := implPeak_any (some ⟨g, 0, none⟩) k cp us w10 _ G10.out (by have := dk.out; omega)
        have hp := (pl_small ip HIP.out).2
        rw [if_pos (by have := dk.out; omega), decide_eq_true (by have := dk.out; omega), HPP.out, ab32, if_neg (by omega)] at this
        exact this)
      refine KP.out.mono ?_
      rintro e w11 ⟨p, q, rfl, hp', rfl⟩
      have ep : plW ip % 2147483648 = p := ab_some hp'.2
      have P1 := Lib.hid (show peakN us k = p by rw [← ep]; exact HPP.out)
      have P2 := Lib.hid (show p ≤ 1091999999 by rw [← ep]; exact (pl_small ip HIP.out).2)
      clear hp' KP ep
      obtain ⟨v7, hv7⟩ : ∃ v, v = w10.drewN q := ⟨_, rfl⟩
      have S11 := Lib.hid (show w.Since w.heap.size v7 by rw [hv7]; exact since_drewN S10.out _)
      rw [← hv7]
      have ex : x = q3 := ab_some F3.out.out.2
      have ey : y = q4 := ab_some F4.out.out.2
      have ez : z = q5 := ab_some F5.out.out.2
      subst ex; subst ey; subst ez
      have oxy := OXY.out F4.out.out.1
      have oz := OZ.out; have o1 := O1.out; have o2 := O2.out
      have SM := Lib.hid (same_any q0 q1 _ v7 F0.out F1.out)
      have F2' := F2.out
      clear hv7 S10 G10 R10 F0 F1 F3 F4 F5 OXY OZ O1 O2 KX KY KZ KL KR F2
      by_cases h0 : p = 0
      · subst h0
        have op : FloatKind.f32.format.order 0 0 = some .eq := by decide
        as_aux_lemma =>
          go_wp2_with (first | (go_at_call 16; refine SM.out.mono ?_; rintro e v ⟨rfl, rfl⟩) | fail)
          go_ret
          exact ⟨rfl, S11.out⟩
      · have hD0 := D0.out (by
          rcases (peak_spec us HP.out k).2.2 with h | ⟨j, hj, h⟩
          · exact absurd (P1.out.symm.trans h) h0
          · exact ⟨j, hj, by rw [h, P1.out]; exact h0⟩)
        obtain ⟨cc, ec, sc, c1, c2⟩ := like_one sD hD0 rD
        have eL : likeO us us k = some cc := by unfold likeO; rw [KD.out]; exact ec
        rw [eL] at F2'
        have eq2 : cc = q2 := ab_some F2'.out.2
        subst eq2
        obtain ⟨g1, g2'⟩ := like_ord sc c1 c2
        have cv := conv_k cc F2'.out.2
        have op : (FloatKind.f32.format.order p 0 == some .eq) = false := by
          have := P2.out
          rw [ord_nat (by omega) (by omega), cmp_def, if_neg (by omega), if_neg (by omega)]; rfl
        clear F2' eL ec hD0 c1 c2
        as_aux_lemma =>
          go_wp2_with (first | (go_at_call 16; refine SM.out.mono ?_; rintro e v ⟨rfl, rfl⟩) | fail)
          go_ret
          exact ⟨rfl, S11.out⟩
end Go.Proofs.Ytfgebggfoboalaa

