/- Joined: Lk Ll Lm Ln Ta Hi Hj Ae Ma Aa Ab Ac Ad Af Ag La Hv Fu K5 Ih Ii Ij Ik K3 K6 K8 K7 -/
import Derived.Test.YtagcepankiinpaaZk0
import Derived.Deep.QuietTactic
import Derived.BigQuiet
import Derived.Deep.MidRow
import Derived.Laws.AppendOwnNone
import Derived.Test.YtagcepankiinpaaDi
import Derived.Test.YtagcepankiinpaaDr
import Derived.Test.YtagcepankiinpaaEc
import Derived.Test.YtagcepankiinpaaEd
import Derived.Test.YtagcepankiinpaaLf
import Derived.Test.YtagcepankiinpaaWc
import Derived.Test.YtagcepankiinpaaFt
import Derived.Deep.RegionLaw
import Derived.Deep.RegionHeldLaw
/- Statements whose order is open, and which make memory and store into it: one walk in the order of the text serves every order. Of a slot it is known what it is, or only what is true of it and of the blocks that it speaks of. -/
set_option linter.unusedVariables false
set_option linter.unusedSimpArgs false
namespace Go.Proofs.Ytagcepankiinpaa
namespace Lk
open Fl Ieee
/-- blocks -/
abbrev Fp := Nat → Prop
/-- what is known of a slot: of its value, of blocks, of a world; bx: these blocks are its own -/
structure Kd where
  p : Value → Fp → World → Prop
  stable : ∀ u S (w w' : World), (∀ g, S g → w'.heap[g]? = w.heap[g]?) → p u S w → p u S w'
  bx : Bool
inductive Va where
  | v (u : Value)
  | k (K : Kd)
def Va.val : Va → Value
  | .v u => u
  | .k _ => undef
def Va.kd : Va → Option Kd
  | .v _ => none
  | .k K => some K
/-- what an operation leaves: in its slot, and of the box into which it stores -/
structure Ef where
  x : Va
  st : Option (Nat × Kd)
def ev (u : Value) : Ef := ⟨.v u, none⟩
structure Fa where
  a : Act
  κ : Nat → Option Kd
def nb : Value → Prop
  | .bool _ => False
  | _ => True
def upd (κ : Nat → Option Kd) (d : Nat) (k : Option Kd) : Nat → Option Kd := fun i => if i = d then k else κ i
def k1 (A : Fa) (dst : Option Tmp) (x : Va) : Nat → Option Kd :=
  match dst with
  | some d => if d < A.a.tmps.size then upd A.κ d x.kd else A.κ
  | none => A.κ
def k2 (κ : Nat → Option Kd) : Option (Nat × Kd) → Nat → Option Kd
  | some q => upd κ q.1 (some q.2)
  | none => κ
def Fa.put (A : Fa) (dst : Option Tmp) (e : Ef) : Fa := ⟨A.a.put dst e.x.val, k2 (k1 A dst e.x) e.st⟩
/-- the box into which an operation stores -/
def stOf (o : Oper) : Option Nat :=
  match o.op with
  | .store _ (.tmp p) _ => some p
  | _ => none
theorem put_size (a : Act) (dst : Option Tmp) (v : Value) : (a.put dst v).tmps.size = a.tmps.size := by cases dst <;> simp [Act.put]
def R (N : Nat) (A : Fa) (i : Nat) (b : Act) (fp : Nat → Fp) (w : World) : Prop :=
  match A.κ i with
  | none => b.tmps.getD i undef = A.a.tmps.getD i undef
  | some K => nb (A.a.tmps.getD i undef) ∧ nb (b.tmps.getD i undef) ∧ K.p (b.tmps.getD i undef) (fp i) w ∧ (∀ g, fp i g → g < w.heap.size) ∧ (K.bx = true → ∀ g, fp i g → N ≤ g)
def AR (N : Nat) (A : Fa) (b : Act) (fp : Nat → Fp) (w : World) : Prop :=
  b.defers = A.a.defers ∧ b.tmps.size = A.a.tmps.size ∧ (∀ i, R N A i b fp w) ∧ ∀ i j K K', i ≠ j → A.κ i = some K → A.κ j = some K' → K.bx = true → ∀ g, fp i g → ¬ fp j g
theorem R.none_ {N : Nat} {A : Fa} {i : Nat} {b : Act} {fp : Nat → Fp} {w : World} (h : R N A i b fp w) (hk : A.κ i = none) : b.tmps.getD i undef = A.a.tmps.getD i undef := by
  unfold R at h; rw [hk] at h; exact h
theorem R.some_ {N : Nat} {A : Fa} {i : Nat} {b : Act} {fp : Nat → Fp} {w : World} {K : Kd} (h : R N A i b fp w) (hk : A.κ i = some K) : nb (A.a.tmps.getD i undef) ∧ nb (b.tmps.getD i undef) ∧ K.p (b.tmps.getD i undef) (fp i) w ∧ (∀ g, fp i g → g < w.heap.size) ∧ (K.bx = true → ∀ g, fp i g → N ≤ g) := by
  unfold R at h; rw [hk] at h; exact h
theorem R_of_none {N : Nat} {A : Fa} {i : Nat} {b : Act} {fp : Nat → Fp} {w : World} (hk : A.κ i = none) (h : b.tmps.getD i undef = A.a.tmps.getD i undef) : R N A i b fp w := by
  unfold R; rw [hk]; exact h
theorem R_of_some {N : Nat} {A : Fa} {i : Nat} {b : Act} {fp : Nat → Fp} {w : World} {K : Kd} (hk : A.κ i = some K) (h : nb (A.a.tmps.getD i undef) ∧ nb (b.tmps.getD i undef) ∧ K.p (b.tmps.getD i undef) (fp i) w ∧ (∀ g, fp i g → g < w.heap.size) ∧ (K.bx = true → ∀ g, fp i g → N ≤ g)) : R N A i b fp w := by
  unfold R; rw [hk]; exact h
/-- the operation has left this -/
def good (ops : Array Oper) (N : Nat) (o : Oper) (A : Fa) (b : Act) (fp : Nat → Fp) (w : World) (e : Ef) (u : Value) (w' : World) : Prop :=
  (match e.x with
   | .v z => u = z
   | .k K => nb u ∧ ∃ S : Fp, K.p u S w' ∧ (K.bx = true → ∀ g, S g → w.heap.size ≤ g) ∧ ∀ g, S g → g < w'.heap.size ∧ (w.heap.size ≤ g ∨ g < N ∨ ∃ j K', j ∈ o.looksAt ops ∧ A.κ j = some K' ∧ K'.bx = false ∧ fp j g)) ∧
  (match e.st with
   | none => w.Since w.heap.size w'
   | some q => w.Since N w' ∧ w'.heap.size = w.heap.size ∧ (∃ K0, A.κ q.1 = some K0 ∧ K0.bx = true) ∧ q.2.bx = true ∧ q.2.p (b.tmps.getD q.1 undef) (fp q.1) w' ∧ ∀ k, ¬ fp q.1 k → w'.heap[k]? = w.heap[k]?)
theorem since_of {N : Nat} {w0 w w' : World} (h : w0.Since N w) (hs : w.Since w.heap.size w') (hN : N ≤ w.heap.size) : w0.Since N w' := h.trans (since_mono hs hN)
section
variable {P : Program} {ops : Array Oper} {md : Region.Mode} {w0 : World}
/-- one step keeps the relation -/
theorem AR.step {N : Nat} {o : Oper} {A : Fa} {b : Act} {fp : Nat → Fp} {w w' : World} {e : Ef} {u : Value} (h : AR N A b fp w) (hd : ∀ q, e.st = some q → o.dst = none) (hN : N ≤ w.heap.size) (hg : good ops N o A b fp w e u w') :
    ∃ fp', AR N (A.put o.dst e) (b.put o.dst u) fp' w' := by
  obtain ⟨h1, h2, h3, h4⟩ := h
  obtain ⟨x, st⟩ := e
  obtain ⟨hx, hst⟩ := hg
  simp only at hx hst hd
  cases st with
  | some q =>
    obtain ⟨p, K⟩ := q
    have hdn := hd _ rfl
    simp only at hst
    obtain ⟨s1, s2, ⟨K0, hK0, hb0⟩, hb, hp, hoth⟩ := hst
    rw [hdn]
    refine ⟨fp, h1, h2, fun i => ?_, fun i j Ki Kj hij hi hj hbi => ?_⟩
    · by_cases e : i = p
      · subst e
        have := (h3 i).some_ hK0
        exact R_of_some (K := K) (by simp [Fa.put, k2, upd]) ⟨this.1, this.2.1, hp, fun g hg => by rw [s2]; exact this.2.2.2.1 g hg, fun _ => this.2.2.2.2 hb0⟩
      · have hk : (A.put none ⟨x, some (p, K)⟩).κ i = A.κ i := by simp [Fa.put, k2, k1, upd, e]
        cases hki : A.κ i with
        | none => exact R_of_none (hk.trans hki) ((h3 i).none_ hki)
        | some Ki =>
          have := (h3 i).some_ hki
          exact R_of_some (hk.trans hki) ⟨this.1, this.2.1, Ki.stable _ _ w w' (fun g hg => hoth g fun hpg => h4 p i K0 Ki (Ne.symm e) hK0 hki hb0 g hpg hg) this.2.2.1, fun g hg => by rw [s2]; exact this.2.2.2.1 g hg, this.2.2.2.2⟩
    · have hk : ∀ i K', (A.put none ⟨x, some (p, K)⟩).κ i = some K' → ∃ K'', A.κ i = some K'' ∧ (K'.bx = true → K''.bx = true) := by
        intro i K' hi
        by_cases e : i = p
        · subst e; exact ⟨K0, hK0, fun _ => hb0⟩
        · exact ⟨K', by simpa [Fa.put, k2, k1, upd, e] using hi, id⟩
      obtain ⟨K1, hi1, hb1⟩ := hk i Ki hi
      obtain ⟨K2, hj2, _⟩ := hk j Kj hj
      exact h4 i j K1 K2 hij hi1 hj2 (hb1 hbi)
  | none =>
    simp only at hst
    have keep : ∀ i K, A.κ i = some K → K.p (b.tmps.getD i undef) (fp i) w' ∧ ∀ g, fp i g → g < w'.heap.size := fun i K hi => by
      have := (h3 i).some_ hi
      exact ⟨K.stable _ _ w w' (fun g hg => hst.block g (this.2.2.2.1 g hg)) this.2.2.1, fun g hg => Nat.lt_of_lt_of_le (this.2.2.2.1 g hg) hst.size⟩
    have stay : ∀ i, R N A i b fp w → R N A i b fp w' := fun i hi => by
      cases hki : A.κ i with
      | none => exact R_of_none hki (hi.none_ hki)
      | some K =>
        have := hi.some_ hki
        have k := keep i K hki
        exact R_of_some hki ⟨this.1, this.2.1, k.1, k.2, this.2.2.2.2⟩
    cases hdst : o.dst with
    | none => exact ⟨fp, h1, h2, fun i => stay i (h3 i), h4⟩
    | some d =>
      by_cases hsz : d < A.a.tmps.size
      · have hbs : d < b.tmps.size := by rw [h2]; exact hsz
        have gA : ∀ i, (A.a.put (some d) x.val).tmps.getD i undef = if d = i then x.val else A.a.tmps.getD i undef := fun i => by
          simp only [Act.put]; rw [Lo.getD_put]
          by_cases e : d = i
          · rw [if_pos ⟨e, hsz⟩, if_pos e]
          · rw [if_neg (fun h => e h.1), if_neg e]
        have gB : ∀ i, (b.put (some d) u).tmps.getD i undef = if d = i then u else b.tmps.getD i undef := fun i => by
          simp only [Act.put]; rw [Lo.getD_put]
          by_cases e : d = i
          · rw [if_pos ⟨e, hbs⟩, if_pos e]
          · rw [if_neg (fun h => e h.1), if_neg e]
        have hκ : ∀ i, (A.put (some d) ⟨x, none⟩).κ i = if i = d then x.kd else A.κ i := fun i => by simp [Fa.put, k2, k1, hsz, upd]
        have oth : ∀ (fp' : Nat → Fp), (∀ i, i ≠ d → fp' i = fp i) → ∀ i, i ≠ d → R N (A.put (some d) ⟨x, none⟩) i (b.put (some d) u) fp' w' := fun fp' hfp i hi => by
          have hk := hκ i
          rw [if_neg hi] at hk
          have s := stay i (h3 i)
          have ea : (A.put (some d) ⟨x, none⟩).a.tmps.getD i undef = A.a.tmps.getD i undef := by show (A.a.put (some d) x.val).tmps.getD i undef = _; rw [gA, if_neg (Ne.symm hi)]
          have eb : (b.put (some d) u).tmps.getD i undef = b.tmps.getD i undef := by rw [gB, if_neg (Ne.symm hi)]
          cases hki : A.κ i with
          | none => exact R_of_none (hk.trans hki) (by rw [ea, eb]; exact s.none_ hki)
          | some K => exact R_of_some (hk.trans hki) (by rw [ea, eb, hfp i hi]; exact s.some_ hki)
        cases x with
        | v z =>
          simp only at hx
          subst hx
          refine ⟨fp, by simpa [Act.put, Fa.put] using h1, by simpa [Act.put, Fa.put] using h2, fun i => ?_, fun i j Ki Kj hij hi hj hbi => ?_⟩
          · by_cases e : i = d
            · subst e
              refine R_of_none (by rw [hκ, if_pos rfl]; rfl) ?_
              show _ = (A.a.put (some i) _).tmps.getD i undef
              rw [gA, gB, if_pos rfl, if_pos rfl]
              rfl
            · exact oth fp (fun _ _ => rfl) i e
          · rw [hκ] at hi hj
            by_cases e : i = d
            · rw [if_pos e] at hi; cases hi
            · by_cases e2 : j = d
              · rw [if_pos e2] at hj; cases hj
              · rw [if_neg e] at hi; rw [if_neg e2] at hj
                exact h4 i j Ki Kj hij hi hj hbi
        | k K =>
          simp only at hx
          obtain ⟨hnb, S, hp, hfr, hS⟩ := hx
          refine ⟨fun i => if i = d then S else fp i, by simpa [Act.put, Fa.put] using h1, by simpa [Act.put, Fa.put] using h2, fun i => ?_, fun i j Ki Kj hij hi hj hbi => ?_⟩
          · by_cases e : i = d
            · subst e
              refine R_of_some (K := K) (by rw [hκ, if_pos rfl]; rfl) ?_
              rw [gB, if_pos rfl]
              refine ⟨?_, hnb, by simpa using hp, fun g hg => (hS g (by simpa using hg)).1, fun hb g hg => Nat.le_trans hN (hfr hb g (by simpa using hg))⟩
              show nb ((A.a.put (some i) _).tmps.getD i undef)
              rw [gA, if_pos rfl]
              exact trivial
            · exact oth _ (fun i hi => if_neg hi) i e
          · rw [hκ] at hi hj
            intro g hgi hgj
            by_cases e : i = d
            · rw [if_pos e] at hi
              injection hi with hi
              subst hi
              have hne : j ≠ d := fun h => hij (e.trans h.symm)
              rw [if_neg hne] at hj
              simp only [e, if_true, if_neg hne] at hgi hgj
              have := hfr hbi g hgi
              have := ((h3 j).some_ hj).2.2.2.1 g hgj
              omega
            · rw [if_neg e] at hi
              simp only [if_neg e] at hgi
              have bi := (h3 i).some_ hi
              have hlt := bi.2.2.2.1 g hgi
              have hge := bi.2.2.2.2 hbi g hgi
              by_cases e2 : j = d
              · simp only [if_pos e2] at hgj
                rcases (hS g hgj).2 with h5 | h5 | ⟨j', K', _, hj', hb', hg'⟩
                · omega
                · omega
                · refine h4 i j' Ki K' (fun e3 => ?_) hi hj' hbi g hgi hg'
                  subst e3
                  rw [hi] at hj'
                  injection hj' with hj'
                  subst hj'
                  rw [hbi] at hb'
                  cases hb'
              · rw [if_neg e2] at hj
                simp only [if_neg e2] at hgj
                exact h4 i j Ki Kj hij hi hj hbi g hgi hgj
      · have ea : ∀ z, A.a.put (some d) z = A.a := fun z => by
          obtain ⟨⟨ts, ds⟩, κ⟩ := A
          simp only [Act.put]
          congr 1
          exact Array.setIfInBounds_eq_of_size_le (by simpa using hsz)
        have eb : b.put (some d) u = b := by
          obtain ⟨ts, ds⟩ := b
          simp only [Act.put]
          congr 1
          exact Array.setIfInBounds_eq_of_size_le (by simp only at h2; rw [h2]; exact Nat.le_of_not_lt hsz)
        have eA : A.put (some d) ⟨x, none⟩ = A := by
          obtain ⟨a, κ⟩ := A
          simp only [Fa.put, k2, k1]
          rw [if_neg hsz, ea]
        rw [eA, eb]
        exact ⟨fp, h1, h2, fun i => stay i (h3 i), h4⟩
theorem good.world {N : Nat} {o : Oper} {A : Fa} {b : Act} {fp : Nat → Fp} {w w' : World} {e : Ef} {u : Value} (hw : w0.Since N w) (hN : N ≤ w.heap.size) (hg : good ops N o A b fp w e u w') : w0.Since N w' ∧ N ≤ w'.heap.size := by
  obtain ⟨x, st⟩ := e
  have h := hg.2
  cases st with
  | none => exact ⟨since_of hw h hN, Nat.le_trans hN h.size⟩
  | some q => exact ⟨hw.trans h.1, by rw [h.2.1]; exact hN⟩
def upon (P : Program) (G : Value → World → Prop) : Result Next → Prop
  | .ok (.value u) w' => G u w'
  | .ok .skip w' => G undef w'
  | .ok (.enter f args) w' => Calls P f args w' fun e w2 => ∃ u, e = .returned u ∧ G u w2
  | _ => False
/-- From every frame alike and in every world behind w0 the operation leaves this. -/
def loose (P : Program) (ops : Array Oper) (w0 : World) (o : Oper) (A : Fa) (e : Ef) : Prop :=
  (∀ q, e.st = some q → o.dst = none ∧ stOf o = some q.1) ∧ ∀ b fp w, w0.Since w0.heap.size w → w0.heap.size ≤ w.heap.size → b.tmps.size = A.a.tmps.size → (∀ i ∈ o.looksAt ops, R w0.heap.size A i b fp w) →
    upon P (good ops w0.heap.size o A b fp w e) ((execOp b.eval o).run P w)
def wpK (P : Program) (ops : Array Oper) (w0 : World) (Q : Fa → Prop) : List Oper → Fa → Prop
  | [], A => Q A
  | o :: rest, A => if Region.wanted o (yielded ops A.a.tmps) then ∃ e, loose P ops w0 o A e ∧ wpK P ops w0 Q rest (A.put o.dst e) else wpK P ops w0 Q rest (A.put o.dst (ev undef))
def at1 (P : Program) (ops : Array Oper) (w0 : World) (i : Nat) (K : Fa → Prop) (A : Fa) : Prop :=
  match ops[i]? with
  | none => K A
  | some o => if Region.wanted o (yielded ops A.a.tmps) then ∃ e, loose P ops w0 o A e ∧ K (A.put o.dst e) else K (A.put o.dst (ev undef))
theorem at1_mono {i : Nat} {A : Fa} {K K2 : Fa → Prop} (h : ∀ A, K A → K2 A) (hh : at1 P ops w0 i K A) : at1 P ops w0 i K2 A := by
  unfold at1 at *
  cases ho : ops[i]? with
  | none => rw [ho] at hh; exact h _ hh
  | some o =>
    rw [ho] at hh
    simp only at hh ⊢
    by_cases hw : Region.wanted o (yielded ops A.a.tmps) = true
    · rw [if_pos hw] at hh ⊢
      obtain ⟨v, h1, h2⟩ := hh
      exact ⟨v, h1, h _ h2⟩
    · rw [if_neg hw] at hh ⊢
      exact h _ hh
theorem nb_yield {ops : Array Oper} {a b : Act} (hs : b.tmps.size = a.tmps.size) (h : ∀ i, b.tmps.getD i undef = a.tmps.getD i undef ∨ nb (a.tmps.getD i undef) ∧ nb (b.tmps.getD i undef)) : yielded ops b.tmps = yielded ops a.tmps := by
  funext j
  unfold yielded
  cases ht : (ops[j]?).bind (·.dst) with
  | none => rfl
  | some t =>
    simp only [Option.bind_some]
    by_cases hs2 : t < a.tmps.size
    · rw [Lo.getD_of_lt b.tmps t (by rw [hs]; exact hs2), Lo.getD_of_lt a.tmps t hs2]
      rcases h t with e | ⟨e1, e2⟩
      · rw [e]
      · generalize a.tmps.getD t undef = x at *
        generalize b.tmps.getD t undef = y at *
        cases x <;> cases y <;> simp_all [nb]
    · have e1 : a.tmps[t]? = none := Array.getElem?_eq_none (Nat.le_of_not_lt hs2)
      have e2 : b.tmps[t]? = none := Array.getElem?_eq_none (by rw [hs]; exact Nat.le_of_not_lt hs2)
      rw [e1, e2]
theorem AR.yield {N : Nat} {A : Fa} {b : Act} {fp : Nat → Fp} {w : World} (h : AR N A b fp w) : yielded ops b.tmps = yielded ops A.a.tmps :=
  nb_yield h.2.1 fun i => by
    cases hk : A.κ i with
    | none => exact .inl ((h.2.2.1 i).none_ hk)
    | some K => have := (h.2.2.1 i).some_ hk; exact .inr ⟨this.1, this.2.1⟩
def anyL (P : Program) (md : Region.Mode) (ops : Array Oper) (w0 : World) (Q : Fa → Prop) : Nat → Array Bool → Fa → Prop
  | 0, listed, A => Region.ready md ops listed = [] ∧ Q A
  | n + 1, listed, A => (Region.ready md ops listed = [] → Q A) ∧ ∀ i ∈ Region.ready md ops listed, at1 P ops w0 i (anyL P md ops w0 Q n (listed.setIfInBounds i true)) A
theorem wp_of_at1 {i : Nat} {A : Fa} {b : Act} {fp : Nat → Fp} {K : Fa → Prop} {K2 : Act → World → Prop} {Q2 : Exit → Act → World → Prop} {w : World} (hw : w0.Since w0.heap.size w) (hN : w0.heap.size ≤ w.heap.size) (hab : AR w0.heap.size A b fp w)
    (h : ∀ A b fp w, w0.Since w0.heap.size w → w0.heap.size ≤ w.heap.size → AR w0.heap.size A b fp w → K A → K2 b w) (hh : at1 P ops w0 i K A) : wpOp P ops Q2 i K2 b w := by
  unfold at1 at hh
  unfold wpOp
  cases ho : ops[i]? with
  | none => rw [ho] at hh; exact h _ _ _ _ hw hN hab hh
  | some o =>
    rw [ho] at hh
    simp only at hh ⊢
    rw [hab.yield]
    by_cases hwt : Region.wanted o (yielded ops A.a.tmps) = true
    · rw [if_pos hwt] at hh ⊢
      obtain ⟨e, ⟨hd, h1⟩, h2⟩ := hh
      refine .inl ?_
      have h3 := h1 b fp w hw hN hab.2.1 (fun i _ => hab.2.2.1 i)
      have fin : ∀ u w', good ops w0.heap.size o A b fp w e u w' → K2 (b.put o.dst u) w' := fun u w' hg => by
        obtain ⟨fp', hab'⟩ := hab.step (fun q hq => (hd q hq).1) hN hg
        have hw' := hg.world hw hN
        exact h _ _ fp' w' hw'.1 hw'.2 hab' h2
      unfold Oper.wp
      generalize (execOp b.eval o).run P w = r at h3
      cases r with
      | ok n w2 =>
        cases n <;> simp only [upon] at h3 <;> simp only [Oper.upon]
        case value u => exact fin _ _ h3
        case skip => exact fin _ _ h3
        case enter f args =>
          refine h3.mono fun e w3 ⟨u, he, hu⟩ => ?_
          subst he
          exact fin _ _ hu
      | halt x w2 => simp only [upon] at h3
    · rw [if_neg hwt] at hh ⊢
      obtain ⟨fp', hab'⟩ := hab.step (ops := ops) (o := o) (e := ev undef) (u := undef) (fun q hq => by cases hq) hN ⟨rfl, World.Since.refl _ _⟩
      exact h _ _ fp' w hw hN hab' hh
theorem wpAny_of_anyL {Q : Fa → Prop} {Q2 : Exit → Act → World → Prop} (hQ : ∀ A b fp w, w0.Since w0.heap.size w → w0.heap.size ≤ w.heap.size → AR w0.heap.size A b fp w → Q A → Q2 .normal b w) : ∀ (n : Nat) (listed : Array Bool) (A : Fa) (b : Act) (fp : Nat → Fp) (w : World), w0.Since w0.heap.size w → w0.heap.size ≤ w.heap.size → AR w0.heap.size A b fp w →
    anyL P md ops w0 Q n listed A → wpAny P md ops Q2 n listed b w
  | 0, _, _, _, _, _, hw, hN, hab, h => ⟨h.1, hQ _ _ _ _ hw hN hab h.2⟩
  | n + 1, _, _, _, _, _, hw, hN, hab, h => ⟨fun h0 => hQ _ _ _ _ hw hN hab (h.1 h0), fun i hi => wp_of_at1 hw hN hab (fun A2 b2 fp2 w2 hw2 hN2 hab2 => wpAny_of_anyL hQ n _ A2 b2 fp2 w2 hw2 hN2 hab2) (h.2 i hi)⟩
/-! ### what an operation does not look at -/
def notIn (dst : Option Tmp) (e : Ef) (L : List Nat) : Prop := (∀ d, dst = some d → d ∉ L) ∧ ∀ q, e.st = some q → q.1 ∉ L
theorem put_κ {A : Fa} {dst : Option Tmp} {e : Ef} {i : Nat} (h1 : ∀ d, dst = some d → i ≠ d) (h2 : ∀ q, e.st = some q → i ≠ q.1) : (A.put dst e).κ i = A.κ i := by
  obtain ⟨x, st⟩ := e
  have hk : k1 A dst x i = A.κ i := by
    cases dst with
    | none => rfl
    | some d =>
      simp only [k1]
      by_cases hs : d < A.a.tmps.size
      · rw [if_pos hs]; simp [upd, h1 d rfl]
      · rw [if_neg hs]
  cases st with
  | none => exact hk
  | some q => simp only [Fa.put, k2, upd]; rw [if_neg (h2 q rfl)]; exact hk
theorem put_val {A : Fa} {dst : Option Tmp} {e : Ef} {i : Nat} (h1 : ∀ d, dst = some d → i ≠ d) : (A.put dst e).a.tmps.getD i undef = A.a.tmps.getD i undef := by
  cases dst with
  | none => rfl
  | some d =>
    show (A.a.tmps.setIfInBounds d e.x.val).getD i undef = _
    rw [Lo.getD_put, if_neg (fun h => h1 d rfl h.1.symm)]
theorem R_put {N : Nat} {A : Fa} {dst : Option Tmp} {e : Ef} {L : List Nat} (h : notIn dst e L) {i : Nat} (hi : i ∈ L) {b : Act} {fp : Nat → Fp} {w : World} : R N (A.put dst e) i b fp w ↔ R N A i b fp w := by
  unfold R
  have h1 : ∀ d, dst = some d → i ≠ d := fun d hd e => h.1 d hd (e ▸ hi)
  rw [put_κ h1 (fun q hq e => h.2 q hq (e ▸ hi)), put_val h1]
theorem good_put {N : Nat} {o : Oper} {A : Fa} {dst : Option Tmp} {e e2 : Ef} (h : notIn dst e (o.looksAt ops)) (hst : ∀ q, e2.st = some q → q.1 ∈ o.looksAt ops) {b : Act} {fp : Nat → Fp} {w : World} {u : Value} {w' : World} :
    good ops N o (A.put dst e) b fp w e2 u w' ↔ good ops N o A b fp w e2 u w' := by
  have hκ : ∀ j, j ∈ o.looksAt ops → (A.put dst e).κ j = A.κ j := fun j hj => put_κ (fun d hd e => h.1 d hd (e ▸ hj)) (fun q hq e => h.2 q hq (e ▸ hj))
  obtain ⟨x, st⟩ := e2
  unfold good
  refine and_congr ?_ ?_
  · cases x with
    | v z => exact Iff.rfl
    | k K =>
      refine and_congr Iff.rfl (exists_congr fun S => and_congr Iff.rfl (and_congr Iff.rfl (forall_congr' fun g => imp_congr Iff.rfl (and_congr Iff.rfl (or_congr Iff.rfl (or_congr Iff.rfl ?_))))))
      refine exists_congr fun j => exists_congr fun K' => ⟨fun ⟨a, b, c⟩ => ⟨a, (hκ j a).symm.trans b, c⟩, fun ⟨a, b, c⟩ => ⟨a, (hκ j a).trans b, c⟩⟩
  · cases st with
    | none => exact Iff.rfl
    | some q =>
      have := hκ q.1 (hst q rfl)
      simp only
      rw [this]
theorem stOf_looks {o : Oper} {p : Nat} (h : stOf o = some p) : p ∈ o.looksAt ops := by
  unfold stOf at h
  split at h
  · rename_i ho
    injection h with h
    subst h
    unfold Oper.looksAt
    rw [ho]
    simp [Op.operands]
  · cases h
theorem loose_put {o : Oper} {A : Fa} {dst : Option Tmp} {e e2 : Ef} (h : notIn dst e (o.looksAt ops)) : loose P ops w0 o (A.put dst e) e2 ↔ loose P ops w0 o A e2 := by
  have hsz : (A.put dst e).a.tmps.size = A.a.tmps.size := put_size _ _ _
  unfold loose
  refine and_congr_right fun hq => ?_
  have hst : ∀ q, e2.st = some q → q.1 ∈ o.looksAt ops := fun q hq2 => stOf_looks (hq q hq2).2
  have up : ∀ b fp w r, upon P (good ops w0.heap.size o (A.put dst e) b fp w e2) r ↔ upon P (good ops w0.heap.size o A b fp w e2) r := fun b fp w r => by
    have : good ops w0.heap.size o (A.put dst e) b fp w e2 = good ops w0.heap.size o A b fp w e2 := funext fun u => funext fun w' => propext (good_put h hst)
    rw [this]
  constructor
  · intro hl b fp w h1 h2 h3 h4
    exact (up b fp w _).1 (hl b fp w h1 h2 (h3.trans hsz.symm) fun i hi => (R_put h hi).2 (h4 i hi))
  · intro hl b fp w h1 h2 h3 h4
    exact (up b fp w _).2 (hl b fp w h1 h2 (h3.trans hsz) fun i hi => (R_put h hi).1 (h4 i hi))
def Yl (P : Program) (ops : Array Oper) (w0 : World) (o : Oper) (e : Ef) (A : Fa) : Prop :=
  (Region.wanted o (yielded ops A.a.tmps) = true ∧ loose P ops w0 o A e) ∨ (Region.wanted o (yielded ops A.a.tmps) = false ∧ e = ev undef)
theorem Yl.st {o : Oper} {e : Ef} {A : Fa} (h : Yl P ops w0 o e A) : ∀ q, e.st = some q → o.dst = none ∧ stOf o = some q.1 := by
  rcases h with ⟨_, h⟩ | ⟨_, rfl⟩
  · exact h.1
  · intro q hq; cases hq
theorem at1_of_Yl {i : Nat} {o : Oper} {e : Ef} {A : Fa} (hi : ops[i]? = some o) (hy : Yl P ops w0 o e A) {K : Fa → Prop} (h : K (A.put o.dst e)) : at1 P ops w0 i K A := by
  unfold at1
  rw [hi]
  simp only
  rcases hy with ⟨hw, hv⟩ | ⟨hw, rfl⟩
  · rw [if_pos hw]; exact ⟨e, hv, h⟩
  · rw [if_neg (by rw [hw]; decide)]; exact h
theorem Yl_of_at1 {i : Nat} {o : Oper} {A : Fa} {K : Fa → Prop} (hi : ops[i]? = some o) (h : at1 P ops w0 i K A) : ∃ e, Yl P ops w0 o e A ∧ K (A.put o.dst e) := by
  unfold at1 at h
  rw [hi] at h
  simp only at h
  by_cases hw : Region.wanted o (yielded ops A.a.tmps) = true
  · rw [if_pos hw] at h
    obtain ⟨v, h1, h2⟩ := h
    exact ⟨v, .inl ⟨hw, h1⟩, h2⟩
  · rw [if_neg hw] at h
    exact ⟨ev undef, .inr ⟨by simpa using hw, rfl⟩, h⟩
theorem put_comm (A : Fa) {x y : Option Tmp} (e f : Ef) (h : ∀ d, x = some d → y ≠ some d) (h1 : ∀ q d, e.st = some q → y = some d → q.1 ≠ d) (h2 : ∀ q d, f.st = some q → x = some d → q.1 ≠ d) (h3 : ∀ q r, e.st = some q → f.st = some r → q.1 ≠ r.1) :
    (A.put x e).put y f = (A.put y f).put x e := by
  have ea := Act.put_comm A.a (x := x) (y := y) e.x.val f.x.val h
  have s1 : ∀ z v, (A.a.put z v).tmps.size = A.a.tmps.size := fun z v => put_size _ _ _
  show Fa.mk _ _ = Fa.mk _ _
  congr 1
  funext i
  simp only [Fa.put]
  have hk : ∀ (κ : Nat → Option Kd) (d : Option Tmp) (v : Va) (i : Nat), k1 ⟨A.a, κ⟩ d v i = if (d = some i ∧ i < A.a.tmps.size) then v.kd else κ i := fun κ d v i => by
    cases d with
    | none => simp [k1]
    | some d =>
      simp only [k1]
      by_cases hs : d < A.a.tmps.size
      · rw [if_pos hs]
        simp only [upd]
        by_cases e : i = d
        · subst e; simp [hs]
        · rw [if_neg e, if_neg (fun h => e (by injection h.1 with h; exact h.symm))]
      · rw [if_neg hs]
        split
        · rename_i h
          obtain ⟨h, h'⟩ := h
          injection h with h
          subst h
          exact absurd h' hs
        · rfl
  have hk' : ∀ (z : Option Tmp) (u : Value) (κ : Nat → Option Kd) (d : Option Tmp) (v : Va) (i : Nat), k1 ⟨A.a.put z u, κ⟩ d v i = if (d = some i ∧ i < A.a.tmps.size) then v.kd else κ i := fun z u κ d v i => by
    rw [← hk κ d v i]
    cases d with
    | none => rfl
    | some d => simp only [k1, s1]
  have hA : ∀ (d : Option Tmp) (v : Va) (i : Nat), k1 A d v i = if (d = some i ∧ i < A.a.tmps.size) then v.kd else A.κ i := fun d v i => hk A.κ d v i
  have hk2 : ∀ (κ : Nat → Option Kd) (q : Option (Nat × Kd)) (i : Nat), k2 κ q i = match q with | some q => (if i = q.1 then some q.2 else κ i) | none => κ i := fun κ q i => by cases q <;> rfl
  obtain ⟨ex, es⟩ := e
  obtain ⟨fx, fs⟩ := f
  simp only at h1 h2 h3 ⊢
  rw [hk2, hk2]
  simp only [hk', hk2, hA]
  cases es with
  | none =>
    cases fs with
    | none =>
      simp only
      by_cases c1 : x = some i ∧ i < A.a.tmps.size
      · by_cases c2 : y = some i ∧ i < A.a.tmps.size
        · exact absurd c2.1 (h i c1.1)
        · have hy' : ¬ y = some i := fun e => c2 ⟨e, c1.2⟩
          simp [c1, hy']
      · simp [c1]
    | some r =>
      simp only
      by_cases c : i = r.1
      · subst c
        by_cases c1 : x = some r.1 ∧ r.1 < A.a.tmps.size
        · exact absurd rfl (h2 r r.1 rfl c1.1)
        · simp [c1]
      · simp only [if_neg c]
        by_cases c1 : x = some i ∧ i < A.a.tmps.size
        · by_cases c2 : y = some i ∧ i < A.a.tmps.size
          · exact absurd c2.1 (h i c1.1)
          · have hy' : ¬ y = some i := fun e => c2 ⟨e, c1.2⟩
            simp [c1, hy']
        · simp [c1]
  | some q =>
    cases fs with
    | none =>
      simp only
      by_cases c : i = q.1
      · subst c
        by_cases c1 : y = some q.1 ∧ q.1 < A.a.tmps.size
        · exact absurd rfl (h1 q q.1 rfl c1.1)
        · simp [c1]
      · simp only [if_neg c]
        by_cases c1 : x = some i ∧ i < A.a.tmps.size
        · by_cases c2 : y = some i ∧ i < A.a.tmps.size
          · exact absurd c2.1 (h i c1.1)
          · have hy' : ¬ y = some i := fun e => c2 ⟨e, c1.2⟩
            simp [c1, hy']
        · simp [c1]
    | some r =>
      have hqr := h3 q r rfl rfl
      simp only
      by_cases c : i = r.1
      · subst c
        have c3 : ¬ r.1 = q.1 := fun e => hqr e.symm
        by_cases c1 : x = some r.1 ∧ r.1 < A.a.tmps.size
        · exact absurd rfl (h2 r r.1 rfl c1.1)
        · simp [c1, c3]
      · by_cases c' : i = q.1
        · subst c'
          by_cases c1 : y = some q.1 ∧ q.1 < A.a.tmps.size
          · exact absurd rfl (h1 q q.1 rfl c1.1)
          · simp [c1, c]
        · simp only [if_neg c, if_neg c']
          by_cases c1 : x = some i ∧ i < A.a.tmps.size
          · by_cases c2 : y = some i ∧ i < A.a.tmps.size
            · exact absurd c2.1 (h i c1.1)
            · have hy' : ¬ y = some i := fun e => c2 ⟨e, c1.2⟩
              simp [c1, hy']
          · simp [c1]
/-- no operation but the store itself looks at the box into which it stores -/
def stB (ops : Array Oper) : Bool := (List.range ops.size).all fun i => (List.range ops.size).all fun j => i == j || match ops[i]?, ops[j]? with
  | some oi, some oj => (match stOf oi with | some p => !(oj.looksAt ops).contains p | none => true)
  | _, _ => true
theorem stB_spec (h : stB ops = true) {i j : Nat} {oi oj : Oper} (hi : ops[i]? = some oi) (hj : ops[j]? = some oj) (hne : i ≠ j) {p : Nat} (hp : stOf oi = some p) : p ∉ oj.looksAt ops := by
  unfold stB at h
  have h1 := List.all_eq_true.1 h i (List.mem_range.2 (Array.getElem?_eq_some_iff.1 hi).1)
  have h2 := List.all_eq_true.1 h1 j (List.mem_range.2 (Array.getElem?_eq_some_iff.1 hj).1)
  simp only [hi, hj, hp, Bool.or_eq_true, beq_iff_eq, hne, false_or, Bool.not_eq_true', List.contains_eq_mem, decide_eq_false_iff_not] at h2
  exact h2
theorem at1_swap {i j : Nat} {oi oj : Oper} {e : Ef} (hi : ops[i]? = some oi) (hj : ops[j]? = some oj) (hne : i ≠ j) (hS : stB ops = true) (hap : oi.apart ops oj = true) {K : Fa → Prop} {A : Fa}
    (hy : Yl P ops w0 oi e A) (h : at1 P ops w0 j K (A.put oi.dst e)) : at1 P ops w0 j (fun B => Yl P ops w0 oi e B ∧ K (B.put oi.dst e)) A := by
  obtain ⟨h1, h2, h3⟩ := Oper.apart_spec hap
  have n1 : notIn oi.dst e (oj.looksAt ops) := ⟨h1, fun q hq => stB_spec hS hi hj hne (hy.st q hq).2⟩
  have keep : ∀ f : Ef, (∀ q, f.st = some q → oj.dst = none ∧ stOf oj = some q.1) → Yl P ops w0 oi e (A.put oj.dst f) := fun f hf => by
    have n2 : notIn oj.dst f (oi.looksAt ops) := ⟨h3, fun q hq => stB_spec hS hj hi (Ne.symm hne) (hf q hq).2⟩
    unfold Yl at hy ⊢
    rw [show (A.put oj.dst f).a = A.a.put oj.dst f.x.val from rfl, wanted_put oi A.a oj.dst f.x.val h3, loose_put n2]
    exact hy
  have com : ∀ f : Ef, (∀ q, f.st = some q → oj.dst = none ∧ stOf oj = some q.1) → (A.put oi.dst e).put oj.dst f = (A.put oj.dst f).put oi.dst e := fun f hf => by
    refine put_comm A e f h2 (fun q d hq hd => ?_) (fun q d hq hd => ?_) (fun q r hq hr => ?_)
    · intro he
      exact h3 d hd (he ▸ stOf_looks (hy.st q hq).2)
    · intro he
      exact h1 d hd (he ▸ stOf_looks (hf q hq).2)
    · intro he
      exact stB_spec hS hi hj hne (hy.st q hq).2 (he ▸ stOf_looks (hf r hr).2)
  unfold at1 at *
  rw [hj] at h ⊢
  simp only at h ⊢
  rw [show (A.put oi.dst e).a = A.a.put oi.dst e.x.val from rfl, wanted_put oj A.a oi.dst e.x.val h1] at h
  by_cases hw : Region.wanted oj (yielded ops A.a.tmps) = true
  · rw [if_pos hw] at h ⊢
    obtain ⟨f, hf, hn⟩ := h
    have hf' := (loose_put n1).1 hf
    exact ⟨f, hf', keep f hf'.1, by rw [← com f hf'.1]; exact hn⟩
  · rw [if_neg hw] at h ⊢
    exact ⟨keep _ (fun q hq => by cases hq), by rw [← com _ (fun q hq => by cases hq)]; exact h⟩
theorem anyL_first {Q : Fa → Prop} {i : Nat} {oi : Oper} {e : Ef} (hi : ops[i]? = some oi) (hS : stB ops = true) :
    ∀ (n : Nat) (listed : Array Bool) (A : Fa),
      (∀ j oj, ops[j]? = some oj → j ≠ i → listed.getD j true = false → (∀ e ∈ oj.after, Region.binds md e = true → e.on ≠ i) → oi.apart ops oj = true) →
      i ∈ Region.ready md ops listed → Yl P ops w0 oi e A →
      anyL P md ops w0 Q n (listed.setIfInBounds i true) (A.put oi.dst e) → anyL P md ops w0 Q (n + 1) listed A := by
  intro n
  induction n with
  | zero =>
    intro listed A _ hr hy H
    refine ⟨fun h => (by rw [h] at hr; cases hr), fun j hj => ?_⟩
    by_cases e : j = i
    · subst e; exact at1_of_Yl hi hy H
    · have h0 := ready_mono hj e
      rw [H.1] at h0
      cases h0
  | succ n ih =>
    intro listed A hfree hr hy H
    refine ⟨fun h => (by rw [h] at hr; cases hr), fun j hj => ?_⟩
    by_cases e : j = i
    · subst e; exact at1_of_Yl hi hy H
    · obtain ⟨hjun, oj, hoj, hall⟩ := mem_ready.1 hj
      have hnot : ∀ x ∈ oj.after, Region.binds md x = true → x.on ≠ i := fun x hx hb heq => by
        have g1 := hall x hx hb
        have g0 := (mem_ready.1 hr).1
        rw [heq] at g1
        rcases Nat.lt_or_ge i listed.size with hl | hl
        · simp [hl] at g0 g1; rw [g0] at g1; cases g1
        · simp [Array.getElem?_eq_none hl] at g1
      have hsw := at1_swap hi hoj (Ne.symm e) hS (hfree j oj hoj e hjun hnot) hy (H.2 j (ready_mono hj e))
      refine at1_mono (fun b hb => ih (listed.setIfInBounds j true) b (fun k ok hk hki hun hno => ?_) (ready_mono hr (Ne.symm e)) hb.1 ?_) hsw
      · refine hfree k ok hk hki ?_ hno
        by_cases hjk : j = k
        · subst hjk; exact hjun
        · rw [getD_set_ne true hjk] at hun; exact hun
      · rw [Array.setIfInBounds_comm _ _ e]
        exact hb.2
theorem anyL_text {Q : Fa → Prop} (hS : stB ops = true) : ∀ (l : List Oper) (k : Nat) (listed : Array Bool) (A : Fa), (∀ j, l[j]? = ops[k + j]?) →
    Region.lexFrom md ops l.length k listed = true → wpK P ops w0 Q l A → anyL P md ops w0 Q l.length listed A
  | [], _, _, _, _, hB, h => ⟨by simpa [Region.lexFrom] using hB, h⟩
  | o :: l, k, listed, A, hl, hB, h => by
    have h0 : ops[k]? = some o := by simpa using (hl 0).symm
    simp only [List.length_cons, Region.lexFrom, Bool.and_eq_true] at hB
    obtain ⟨⟨hr, hf⟩, hB2⟩ := hB
    have hst : at1 P ops w0 k (wpK P ops w0 Q l) A := by unfold at1; rw [h0]; exact h
    obtain ⟨v, hy, hK⟩ := Yl_of_at1 h0 hst
    exact anyL_first h0 hS l.length listed A (Region.free_spec h0 hf) (by simpa using hr) hy
      (anyL_text hS l (k + 1) _ _ (fun j => by have := hl (j + 1); simpa [Nat.add_assoc, Nat.add_comm 1 j] using this) hB2 hK)
end
/-- what stands behind the statement -/
def After (w0 : World) (A : Fa) (Rr : Act → (Nat → Fp) → World → Prop) : Prop := ∀ b fp w, w0.Since w0.heap.size w → w0.heap.size ≤ w.heap.size → AR w0.heap.size A b fp w → Rr b fp w
/-- **One walk in the order of the text serves every order.** -/
theorem wp_k {P : Program} {id : Nat} {Q : Exit → Act → World → Prop} {a : Act} {w : World} {l : List Oper} (hm : P.follows .mixedOrders = true) (hB : Region.lexB .any l.toArray = true) (hS : stB l.toArray = true)
    (h : wpK P l.toArray w (fun A => After w A fun b _ v => Q .normal b v) l ⟨a, fun _ => none⟩) : (Code.region id l.toArray true).wp P Q a w := by
  simp only [Region.lexB, Bool.and_eq_true] at hB
  have s0 : w.Since w.heap.size { w with drawn := w.drawn + 1 } := ⟨rfl, rfl, rfl, Nat.le_refl _, fun _ _ => rfl⟩
  refine wp_region_any hm (wpAny_of_anyL (w0 := w) (Q := fun A => After w A fun b _ v => Q .normal b v)
    (fun A b fp v hw hN hab hq => hq b fp v hw hN hab) _ _ ⟨a, fun _ => none⟩ a (fun _ _ => False) _ s0 (Nat.le_refl _) ⟨rfl, rfl, fun i => R_of_none rfl rfl, fun i j K K' _ hi => by cases hi⟩ ?_)
  have := anyL_text (P := P) (w0 := w) (md := .any) hS l 0 (Array.replicate l.length false) ⟨a, fun _ => none⟩ (by simp) (by simpa using hB.2) h
  simpa using this
end Lk
end Go.Proofs.Ytagcepankiinpaa

/- The steps of a walk by Lk. -/
set_option linter.unusedVariables false
set_option linter.unusedSimpArgs false
namespace Go.Proofs.Ytagcepankiinpaa
namespace Lk
open Fl Ieee
def pureOp (o : Oper) : Bool :=
  match o.op with
  | .move _ | .assign _ | .pick .. | .build .. | .load .. | .binOp .. | .unOp .. | .convert .. | .field .. | .index .. | .extract .. | .fieldAddr .. | .indexAddr .. | .makeInterface .. | .makeFunc .. | .slice .. | .sliceToArrayPointer .. => true
  | _ => false
theorem v_no_enter {P : Program} {s : Sem Value} {w w' : World} {f : FuncId} {args : Array Value} (h : (do pure (Next.value (← s)) : Sem Next).run P w = .ok (.enter f args) w') : False := by
  simp only [Sem.run_bind] at h
  cases hs : s.run P w with
  | ok a w2 => rw [hs] at h; simp [Result.andThen] at h
  | halt x w2 => rw [hs] at h; simp [Result.andThen] at h
theorem pure_no_enter {P : Program} {ρ : Operand → Value} {o : Oper} (h : pureOp o = true) {w w' : World} {f : FuncId} {args : Array Value} (e : (execOp ρ o).run P w = .ok (.enter f args) w') : False := by
  unfold pureOp at h
  unfold execOp at e
  cases ho : o.op <;> rw [ho] at h e <;> simp only at h e <;> first | (cases h; done) | exact v_no_enter e | (simp [Sem.run_pure] at e; done) | (simp only [Sem.run_bind, Sem.run_pure] at e; revert e; generalize Sem.run P _ w = r; intro e; cases r <;> simp [Result.andThen] at e; done) | skip
def avoidK (A : Fa) (o : Oper) : Bool := (o.op.operands.toList.all fun x => match x with | .tmp t => (A.κ t).isNone | _ => true) && (match o.op with | .select .. => false | _ => true)
theorem looks_op {ops : Array Oper} {o : Oper} {t : Nat} (h : (.tmp t : Operand) ∈ o.op.operands) : t ∈ o.looksAt ops := List.mem_append_left _ (List.mem_filterMap.2 ⟨.tmp t, by simpa using h, rfl⟩)
theorem eval_avoidK {ops : Array Oper} {N : Nat} {A : Fa} {b : Act} {fp : Nat → Fp} {w : World} {o : Oper} (hR : ∀ i ∈ o.looksAt ops, R N A i b fp w) (ho : avoidK A o = true) : execOp b.eval o = execOp A.a.eval o := by
  unfold avoidK at ho
  rw [Bool.and_eq_true] at ho
  refine execOp_congr o (fun cs bb e => by rw [e] at ho; simp at ho) fun x hx => ?_
  have h1 := List.all_eq_true.1 ho.1 x (by simpa using hx)
  cases x with
  | tmp t =>
    simp only at h1
    have hk : A.κ t = none := by simpa using h1
    exact (hR t (looks_op hx)).none_ hk
  | const v => rfl
  | global g => rfl
  | func f => rfl
/-- arguments, those that are known by their properties alone as they are -/
theorem args_eq {ops : Array Oper} {N : Nat} {A : Fa} {b : Act} {fp : Nat → Fp} {w : World} {o : Oper} (hR : ∀ i ∈ o.looksAt ops, R N A i b fp w) {xs : List Operand} (hx : ∀ x ∈ xs, x ∈ o.op.operands) :
    xs.map b.eval = xs.map fun x => match x with | .tmp t => (match A.κ t with | some _ => b.tmps.getD t undef | none => A.a.tmps.getD t undef) | y => A.a.eval y := by
  refine List.map_congr_left fun x hxx => ?_
  cases x with
  | tmp t =>
    simp only
    cases hk : A.κ t with
    | none => exact (hR t (looks_op (hx _ hxx))).none_ hk
    | some K => rfl
  | const v => rfl
  | global g => rfl
  | func f => rfl
section
variable {P : Program} {ops : Array Oper} {w0 : World} {Q : Fa → Prop} {A : Fa} {o : Oper} {rest : List Oper}
theorem wpK_nil (h : Q A) : wpK P ops w0 Q [] A := h
theorem wpK_of_loose {e : Ef} (hg : o.guard = none) (h : loose P ops w0 o A e) (hK : wpK P ops w0 Q rest (A.put o.dst e)) : wpK P ops w0 Q (o :: rest) A := by
  unfold wpK
  rw [if_pos (Lo.wanted_none hg _)]
  exact ⟨e, h, hK⟩
/-- an operation that looks at known slots alone, and leaves the world -/
theorem wpK_quiet (hg : o.guard = none) (ho : avoidK A o = true) (hp : pureOp o = true) (h : ∀ K : Act → Prop, (∀ a, wpK P ops w0 Q rest ⟨a, k1 A o.dst (.v undef)⟩ → K a) → o.quiet P A.a (fun v => w0.Since w0.heap.size v) K) : wpK P ops w0 Q (o :: rest) A := by
  obtain ⟨v, h1, h2⟩ := h (fun a => wpK P ops w0 Q rest ⟨a, k1 A o.dst (.v undef)⟩) (fun _ h => h)
  refine wpK_of_loose (e := ev v) hg ⟨fun q hq => (by cases hq), fun b fp w hw hN _ hR => ?_⟩ h2
  rw [eval_avoidK hR ho]
  have h3 := h1 w hw
  unfold Oper.quietAt at h3
  generalize hr : (execOp A.a.eval o).run P w = r at h3
  cases r with
  | ok n w2 =>
    cases n <;> simp only [Oper.quietUpon] at h3 <;> simp only [upon]
    case value u => obtain ⟨rfl, rfl⟩ := h3; exact ⟨rfl, World.Since.refl _ _⟩
    case skip => obtain ⟨rfl, rfl⟩ := h3; exact ⟨rfl, World.Since.refl _ _⟩
    case enter f args => exact absurd hr (fun h => pure_no_enter hp h)
  | halt x w2 => simp only [Oper.quietUpon] at h3
/-- an operation whose run is told -/
theorem wpK_told (hg : o.guard = none) (ho : avoidK A o = true) (v : Value) (hrun : ∀ w, w0.Since w0.heap.size w → w0.heap.size ≤ w.heap.size → ∃ w', (execOp A.a.eval o).run P w = .ok (.value v) w' ∧ w.Since w.heap.size w') (hK : wpK P ops w0 Q rest (A.put o.dst (ev v))) : wpK P ops w0 Q (o :: rest) A := by
  refine wpK_of_loose (e := ev v) hg ⟨fun q hq => (by cases hq), fun b fp w hw hN _ hR => ?_⟩ hK
  rw [eval_avoidK hR ho]
  obtain ⟨w', e, hs⟩ := hrun w hw hN
  rw [e]
  exact ⟨rfl, hs⟩
/-- a slot that is known by its properties alone, moved -/
theorem wpK_copy (hg : o.guard = none) (s : Nat) (hop : o.op = .move (.tmp s) ∨ o.op = .assign (.tmp s)) (K : Kd) (hk : A.κ s = some K) (hb : K.bx = false) (hK : wpK P ops w0 Q rest (A.put o.dst ⟨.k K, none⟩)) : wpK P ops w0 Q (o :: rest) A := by
  refine wpK_of_loose (e := ⟨.k K, none⟩) hg ⟨fun q hq => (by cases hq), fun b fp w hw hN _ hR => ?_⟩ hK
  have hm : s ∈ o.looksAt ops := looks_op (by rcases hop with h | h <;> rw [h] <;> simp [Op.operands])
  have h := (hR s hm).some_ hk
  have e : (execOp b.eval o).run P w = .ok (.value (b.tmps.getD s undef)) w := by
    rcases hop with h | h
    · exact BigFrame.run_move (.tmp s) h w
    · exact BigFrame.run_assign (.tmp s) h w
  rw [e]
  exact ⟨⟨h.2.1, fp s, h.2.2.1, (fun h2 => by rw [hb] at h2; cases h2), fun g hg => ⟨h.2.2.2.1 g hg, .inr (.inr ⟨s, K, hm, hk, hb, hg⟩)⟩⟩, World.Since.refl _ _⟩
theorem run_extract {ρ : Operand → Value} {s ix : Nat} (hop : o.op = .extract (.tmp s) ix) {vs : Array Value} {z : Value} (hv : ρ (.tmp s) = .tuple vs) (hz : vs[ix]? = some z) (w : World) : (execOp ρ o).run P w = .ok (.value z) w := by
  simp [execOp, hop, hv, Instr.extract, hz, Result.andThen]
theorem wpK_extract (hg : o.guard = none) (s ix : Nat) (hop : o.op = .extract (.tmp s) ix) (K K2 : Kd) (hk : A.κ s = some K) (hb : K.bx = false) (hb2 : K2.bx = false) (hex : ∀ u S w, K.p u S w → ∃ vs z, u = .tuple vs ∧ vs[ix]? = some z ∧ nb z ∧ K2.p z S w)
    (hK : wpK P ops w0 Q rest (A.put o.dst ⟨.k K2, none⟩)) : wpK P ops w0 Q (o :: rest) A := by
  refine wpK_of_loose (e := ⟨.k K2, none⟩) hg ⟨fun q hq => (by cases hq), fun b fp w hw hN _ hR => ?_⟩ hK
  have hm : s ∈ o.looksAt ops := looks_op (by rw [hop]; simp [Op.operands])
  have h := (hR s hm).some_ hk
  obtain ⟨vs, z, e1, e2, hz, h2⟩ := hex _ _ _ h.2.2.1
  rw [run_extract (P := P) (ρ := b.eval) hop e1 e2 w]
  exact ⟨⟨hz, fp s, h2, (fun h2 => by rw [hb2] at h2; cases h2), fun g hg => ⟨h.2.2.2.1 g hg, .inr (.inr ⟨s, K, hm, hk, hb, hg⟩)⟩⟩, World.Since.refl _ _⟩
theorem wpK_extractV (hg : o.guard = none) (s ix : Nat) (hop : o.op = .extract (.tmp s) ix) (K : Kd) (hk : A.κ s = some K) (z : Value) (hex : ∀ u S w, K.p u S w → ∃ vs, u = .tuple vs ∧ vs[ix]? = some z)
    (hK : wpK P ops w0 Q rest (A.put o.dst (ev z))) : wpK P ops w0 Q (o :: rest) A := by
  refine wpK_of_loose (e := ev z) hg ⟨fun q hq => (by cases hq), fun b fp w hw hN _ hR => ?_⟩ hK
  have hm : s ∈ o.looksAt ops := looks_op (by rw [hop]; simp [Op.operands])
  have h := (hR s hm).some_ hk
  obtain ⟨vs, e1, e2⟩ := hex _ _ _ h.2.2.1
  rw [run_extract (P := P) (ρ := b.eval) hop e1 e2 w]
  exact ⟨rfl, World.Since.refl _ _⟩
theorem run_enter {ρ : Operand → Value} {f : FuncId} {xs : List Operand} {tys : Array TypeId} (hop : o.op = Op.call ⟨.value (.func f), xs.toArray, tys⟩) (hf : ρ (.func f) = .func (.func f) #[] #[]) (henter : ∀ args w2, (callFunc f args).run P w2 = .ok (.enter f args) w2) (w : World) : (execOp ρ o).run P w = .ok (.enter f (xs.map ρ).toArray) w := by
  simp [execOp, hop, resolve, hf, invoke, Deferred.ofValue, henter, Result.andThen]
/-- a call whose result is known by its properties -/
theorem wpK_call (hg : o.guard = none) (f : FuncId) (xs : List Operand) (tys : Array TypeId) (hop : o.op = Op.call ⟨.value (.func f), xs.toArray, tys⟩) (henter : ∀ args w2, (callFunc f args).run P w2 = .ok (.enter f args) w2) (K : Kd) (hb : K.bx = false)
    (hc : ∀ b fp w, w0.Since w0.heap.size w → w0.heap.size ≤ w.heap.size → (∀ i ∈ o.looksAt ops, R w0.heap.size A i b fp w) → Calls P f (xs.map b.eval).toArray w fun e2 w2 => ∃ u S, e2 = .returned u ∧ nb u ∧ K.p u S w2 ∧ w.Since w.heap.size w2 ∧ ∀ g, S g → w.heap.size ≤ g ∧ g < w2.heap.size)
    (hK : wpK P ops w0 Q rest (A.put o.dst ⟨.k K, none⟩)) : wpK P ops w0 Q (o :: rest) A := by
  refine wpK_of_loose (e := ⟨.k K, none⟩) hg ⟨fun q hq => (by cases hq), fun b fp w hw hN _ hR => ?_⟩ hK
  rw [run_enter (P := P) hop rfl henter w]
  exact (hc b fp w hw hN hR).mono fun e2 w2 ⟨u, S, he, h1, h2, h3, h4⟩ => ⟨u, he, ⟨h1, S, h2, (fun h => by rw [hb] at h; cases h), fun g hg => ⟨(h4 g hg).2, .inl (h4 g hg).1⟩⟩, h3⟩
/-- a call with one known result -/
theorem wpK_callV (hg : o.guard = none) (f : FuncId) (xs : List Operand) (tys : Array TypeId) (hop : o.op = Op.call ⟨.value (.func f), xs.toArray, tys⟩) (henter : ∀ args w2, (callFunc f args).run P w2 = .ok (.enter f args) w2) (z : Value)
    (hc : ∀ b fp w, w0.Since w0.heap.size w → w0.heap.size ≤ w.heap.size → (∀ i ∈ o.looksAt ops, R w0.heap.size A i b fp w) → Calls P f (xs.map b.eval).toArray w fun e2 w2 => e2 = .returned z ∧ w.Since w.heap.size w2)
    (hK : wpK P ops w0 Q rest (A.put o.dst (ev z))) : wpK P ops w0 Q (o :: rest) A := by
  refine wpK_of_loose (e := ev z) hg ⟨fun q hq => (by cases hq), fun b fp w hw hN _ hR => ?_⟩ hK
  rw [run_enter (P := P) hop rfl henter w]
  exact (hc b fp w hw hN hR).mono fun e2 w2 ⟨he, h3⟩ => ⟨z, he, rfl, h3⟩
/-- a box of the statement's own -/
def bxP (T : TypeId) (Pc : List Value → Prop) (u : Value) (S : Fp) (w : World) : Prop := ∃ (g : Nat) (cs : List Value), u = .pointer (some ⟨g, 0, none⟩) ∧ (∀ k, S k ↔ k = g) ∧ w.heap[g]? = some (.cells cs.toArray T (0, 0)) ∧ Pc cs
def bxK (T : TypeId) (Pc : List Value → Prop) : Kd where
  p := bxP T Pc
  stable := fun u S w w' h hp => by
    obtain ⟨g, cs, e, hS, hb, hc⟩ := hp
    exact ⟨g, cs, e, hS, (h g ((hS g).2 rfl)).trans hb, hc⟩
  bx := true
theorem wpK_alloc (hg : o.guard = none) (elem : TypeId) (hop : o.op = .alloc elem) (T : TypeId) (cs : List Value) (hrun : ∀ w : World, (Instr.alloc elem true (.tuple #[])).run P w = .ok (.pointer (some ⟨w.heap.size, 0, none⟩)) (w.alloc (.cells cs.toArray T)))
    (hK : wpK P ops w0 Q rest (A.put o.dst ⟨.k (bxK T (· = cs)), none⟩)) : wpK P ops w0 Q (o :: rest) A := by
  refine wpK_of_loose (e := ⟨.k (bxK T (· = cs)), none⟩) hg ⟨fun q hq => (by cases hq), fun b fp w hw hN _ hR => ?_⟩ hK
  have e : (execOp b.eval o).run P w = .ok (.value (.pointer (some ⟨w.heap.size, 0, none⟩))) (w.alloc (.cells cs.toArray T)) := by
    simp [execOp, hop, hrun, Result.andThen]
  rw [e]
  refine ⟨⟨trivial, fun k => k = w.heap.size, ⟨_, cs, rfl, fun k => Iff.rfl, Go.Deep.blk_alloc_new _ _, rfl⟩, fun _ g hg => by rw [hg]; exact Nat.le_refl _, fun g hg => ?_⟩, (World.Since.refl _ _).alloc (Nat.le_refl _) _⟩
  have hg' : g = w.heap.size := hg
  subst hg'
  exact ⟨by simp, .inl (Nat.le_refl _)⟩
theorem setCells_size (g : Nat) : ∀ (vs : List Value) (o : Nat) (w : World), (w.setCells g o vs).heap.size = w.heap.size
  | [], _, _ => rfl
  | v :: r, o, w => by rw [World.setCells, setCells_size g r]; exact Go.Deep.nblk_setCell _ _ _
theorem setCells_other (g : Nat) : ∀ (vs : List Value) (o : Nat) (w : World) (k : Nat), k ≠ g → (w.setCells g o vs).heap[k]? = w.heap[k]?
  | [], _, _, _, _ => rfl
  | v :: r, o, w, k, hk => by rw [World.setCells, setCells_other g r _ _ k hk]; exact Go.Deep.blk_setCell_other _ _ _ _ hk
theorem setCells_since {N g : Nat} (hg : N ≤ g) : ∀ (vs : List Value) (o : Nat) (w : World), w.Since N (w.setCells g o vs)
  | [], _, _ => World.Since.refl _ _
  | v :: r, o, w => ((World.Since.refl _ _).setCell hg _).trans (setCells_since hg r _ _)
theorem setCells_blk {T : TypeId} {g : Nat} : ∀ (vs : List Value) (o : Nat) (w : World) (cs : Array Value), w.heap[g]? = some (.cells cs T (0, 0)) → o + vs.length ≤ cs.size →
    ∃ cs', (w.setCells g o vs).heap[g]? = some (.cells cs' T (0, 0)) ∧ cs'.size = cs.size ∧ (∀ j, j < o → cs'[j]? = cs[j]?) ∧ ∀ j, j < vs.length → cs'[o + j]? = vs[j]?
  | [], _, _, cs, h, _ => ⟨cs, h, rfl, fun _ _ => rfl, fun j hj => by simp at hj⟩
  | v :: r, o, w, cs, h, hl => by
    have h1 : (w.setCell ⟨g, o, none⟩ v).heap[g]? = some (.cells (cs.setIfInBounds o v) T (0, 0)) := by simp [World.setCell, Array.getElem?_modify, h]
    obtain ⟨cs', e1, e2, e3, e4⟩ := setCells_blk r (o + 1) _ _ h1 (by simp only [List.length_cons] at hl; simp; omega)
    refine ⟨cs', e1, by rw [e2]; simp, fun j hj => ?_, fun j hj => ?_⟩
    · rw [e3 j (by omega), Array.getElem?_setIfInBounds_ne (by omega)]
    · cases j with
      | zero =>
        rw [Nat.add_zero, e3 o (by omega)]
        simp only [List.length_cons] at hl
        rw [Array.getElem?_setIfInBounds_self_of_lt (by omega)]
        rfl
      | succ j =>
        have := e4 j (by simp only [List.length_cons] at hj; omega)
        rw [show o + (j + 1) = o + 1 + j by omega, this]
        rfl
theorem setCells_whole {T : TypeId} {g : Nat} {vs cs : List Value} {w : World} (h : w.heap[g]? = some (.cells cs.toArray T (0, 0))) (hl : vs.length = cs.length) : (w.setCells g 0 vs).heap[g]? = some (.cells vs.toArray T (0, 0)) := by
  obtain ⟨cs', e1, e2, e3, e4⟩ := setCells_blk vs 0 w cs.toArray h (by simp; omega)
  rw [e1]
  congr 2
  apply Array.ext_getElem?
  intro i
  by_cases hi : i < vs.length
  · have := e4 i hi
    rw [Nat.zero_add] at this
    rw [this]; simp
  · rw [Array.getElem?_eq_none (by rw [e2]; simp; omega), Array.getElem?_eq_none (by simp; omega)]
theorem wpK_store (hg : o.guard = none) (ty : TypeId) (p : Nat) (y : Operand) (hop : o.op = .store ty (.tmp p) y) (hd : o.dst = none) (T : TypeId) (Pc Pc' : List Value → Prop) (hk : A.κ p = some (bxK T Pc)) (n : Nat) (hn : ∀ cs, Pc cs → cs.length = n) (hi : (P.info? ty).map (·.size) = some n)
    (hy : ∀ b fp w, w0.Since w0.heap.size w → w0.heap.size ≤ w.heap.size → (∀ i ∈ o.looksAt ops, R w0.heap.size A i b fp w) → ∃ cs : List Value, b.eval y = .agg cs.toArray ∧ cs.length = n ∧ Pc' cs ∧ cs.toArray.all (·.oneCell') = true)
    (hK : wpK P ops w0 Q rest (A.put o.dst ⟨.v undef, some (p, bxK T Pc')⟩)) : wpK P ops w0 Q (o :: rest) A := by
  refine wpK_of_loose (e := ⟨.v undef, some (p, bxK T Pc')⟩) hg ⟨fun q hq => ?_, fun b fp w hw hN _ hR => ?_⟩ hK
  · injection hq with hq
    subst hq
    exact ⟨hd, by unfold stOf; rw [hop]⟩
  · have hm : p ∈ o.looksAt ops := looks_op (by rw [hop]; simp [Op.operands])
    have h := (hR p hm).some_ hk
    obtain ⟨g, cs, e1, hS, hb, hc⟩ := h.2.2.1
    obtain ⟨cs', e2, hl, hc', h1⟩ := hy b fp w hw hN hR
    have hl2 : cs'.length = cs.length := by rw [hl, hn cs hc]
    have ht : w.there g 0 cs'.toArray.size := fun j hj => by
      have hj2 : j < cs.length := by rw [← hl2]; simpa using hj
      rw [Nat.zero_add]
      exact ⟨by simp [World.cell?, hb, hj2], by simp [World.frozen?, hb]⟩
    have er := run_storeAt_mid (P := P) w g 0 ty cs'.toArray ht (by rw [hi]; simp [hl]) h1
    have ex : (execOp b.eval o).run P w = .ok .skip (w.setCells g 0 cs') := by
      have e1' : b.eval (.tmp p) = .pointer (some ⟨g, 0, none⟩) := e1
      simp [execOp, hop, e1', e2, er, Result.andThen]
    have hNg := h.2.2.2.2 rfl g ((hS g).2 rfl)
    rw [ex]
    refine ⟨rfl, setCells_since hNg _ _ _, setCells_size _ _ _ _, ⟨_, hk, rfl⟩, rfl, ⟨g, cs', e1, hS, setCells_whole hb hl2, hc'⟩, fun k hk => setCells_other g _ _ _ k fun e => hk ((hS k).2 e)⟩
end
/-! ### the steps, the frame and what is known apart -/
section
variable {P : Program} {ops : Array Oper} {w0 : World} {Q : Fa → Prop} {a : Act} {κ : Nat → Option Kd} {o : Oper} {rest : List Oper} {d : Nat}
theorem put_some {x : Va} (hs : d < a.tmps.size) : (Fa.mk a κ).put (some d) ⟨x, none⟩ = ⟨a.put (some d) x.val, upd κ d x.kd⟩ := by
  simp [Fa.put, k2, k1, hs]
theorem upd_none (hk : κ d = none) : upd κ d none = κ := by
  funext i
  unfold upd
  by_cases e : i = d
  · subst e; rw [if_pos rfl, hk]
  · rw [if_neg e]
theorem k1_known (hk : κ d = none) (x : Value) : k1 ⟨a, κ⟩ (some d) (.v x) = κ := by
  simp only [k1, Va.kd]
  split
  · exact upd_none hk
  · rfl
theorem put_known {u : Value} (hk : κ d = none) : (Fa.mk a κ).put (some d) (ev u) = ⟨a.put (some d) u, κ⟩ := by
  simp [Fa.put, k2, k1_known hk, ev, Va.val]
theorem sQuiet (hg : o.guard = none) (hd : o.dst = some d) (hk : κ d = none) (ho : avoidK ⟨a, κ⟩ o = true) (hp : pureOp o = true) (h : ∀ K : Act → Prop, (∀ a, wpK P ops w0 Q rest ⟨a, κ⟩ → K a) → o.quiet P a (fun v => w0.Since w0.heap.size v) K) : wpK P ops w0 Q (o :: rest) ⟨a, κ⟩ :=
  wpK_quiet hg ho hp fun K hK => h K fun a' ha => hK a' (by rw [hd, k1_known hk]; exact ha)
theorem sMove (hg : o.guard = none) (hd : o.dst = some d) (hk : κ d = none) (ho : avoidK ⟨a, κ⟩ o = true) (x : Operand) (hop : o.op = .move x ∨ o.op = .assign x) (hK : wpK P ops w0 Q rest ⟨a.put (some d) (a.eval x), κ⟩) : wpK P ops w0 Q (o :: rest) ⟨a, κ⟩ :=
  wpK_told hg ho (a.eval x) (fun w _ _ => ⟨w, by
    rcases hop with h | h
    · exact BigFrame.run_move x h w
    · exact BigFrame.run_assign x h w, World.Since.refl _ _⟩) (by rw [hd, put_known hk]; exact hK)
theorem sTold (hg : o.guard = none) (hd : o.dst = some d) (hk : κ d = none) (ho : avoidK ⟨a, κ⟩ o = true) (v : Value) (hrun : ∀ w, w0.Since w0.heap.size w → w0.heap.size ≤ w.heap.size → ∃ w', (execOp a.eval o).run P w = .ok (.value v) w' ∧ w.Since w.heap.size w') (hK : wpK P ops w0 Q rest ⟨a.put (some d) v, κ⟩) : wpK P ops w0 Q (o :: rest) ⟨a, κ⟩ :=
  wpK_told hg ho v hrun (by rw [hd, put_known hk]; exact hK)
/-- a struct is loaded from the law's box -/
theorem sRow (hg : o.guard = none) (hd : o.dst = some d) (hk : κ d = none) (ho : avoidK ⟨a, κ⟩ o = true) (ty : TypeId) (x : Operand) (hop : o.op = .load ty x) (b off : Nat) (hx : a.eval x = .pointer (some ⟨b, off, none⟩)) (cs : List Value) (ds : TypeDesc)
    (hu : P.underlying ty = some ds) (hr : ds.isRow = true) (hi : (P.info? ty).map (·.size) = some cs.length) (hS : ∀ v, w0.Since w0.heap.size v → v.rangeAt b off cs)
    (hK : wpK P ops w0 Q rest ⟨a.put (some d) (.agg cs.toArray), κ⟩) : wpK P ops w0 Q (o :: rest) ⟨a, κ⟩ :=
  sTold hg hd hk ho _ (fun w hw _ => ⟨w, by
    unfold execOp
    simp only [hop, hx, Instr.loadAt, Instr.sureAddr, Sem.run_bind, Sem.run_pure, Result.andThen_ok, Go.run_loadVar_mid w b off ty cs ds (hS w hw) hu hr hi], World.Since.refl _ _⟩) hK
theorem sCopy (hg : o.guard = none) (hd : o.dst = some d) (hs : d < a.tmps.size) (s : Nat) (hop : o.op = .move (.tmp s) ∨ o.op = .assign (.tmp s)) (K : Kd) (hk : κ s = some K) (hb : K.bx = false) (hK : wpK P ops w0 Q rest ⟨a.put (some d) undef, upd κ d (some K)⟩) : wpK P ops w0 Q (o :: rest) ⟨a, κ⟩ :=
  wpK_copy hg s hop K hk hb (by rw [hd, put_some hs]; exact hK)
theorem sExtract (hg : o.guard = none) (hd : o.dst = some d) (hs : d < a.tmps.size) (s ix : Nat) (hop : o.op = .extract (.tmp s) ix) (K K2 : Kd) (hk : κ s = some K) (hb : K.bx = false) (hb2 : K2.bx = false) (hex : ∀ u S w, K.p u S w → ∃ vs z, u = .tuple vs ∧ vs[ix]? = some z ∧ nb z ∧ K2.p z S w)
    (hK : wpK P ops w0 Q rest ⟨a.put (some d) undef, upd κ d (some K2)⟩) : wpK P ops w0 Q (o :: rest) ⟨a, κ⟩ :=
  wpK_extract hg s ix hop K K2 hk hb hb2 hex (by rw [hd, put_some hs]; exact hK)
theorem sExtractV (hg : o.guard = none) (hd : o.dst = some d) (hkd : κ d = none) (s ix : Nat) (hop : o.op = .extract (.tmp s) ix) (K : Kd) (hk : κ s = some K) (z : Value) (hex : ∀ u S w, K.p u S w → ∃ vs, u = .tuple vs ∧ vs[ix]? = some z)
    (hK : wpK P ops w0 Q rest ⟨a.put (some d) z, κ⟩) : wpK P ops w0 Q (o :: rest) ⟨a, κ⟩ :=
  wpK_extractV hg s ix hop K hk z hex (by rw [hd, put_known hkd]; exact hK)
theorem sCall (hg : o.guard = none) (hd : o.dst = some d) (hs : d < a.tmps.size) (f : FuncId) (xs : List Operand) (tys : Array TypeId) (hop : o.op = Op.call ⟨.value (.func f), xs.toArray, tys⟩) (henter : ∀ args w2, (callFunc f args).run P w2 = .ok (.enter f args) w2) (K : Kd) (hb : K.bx = false)
    (hc : ∀ b fp w, w0.Since w0.heap.size w → w0.heap.size ≤ w.heap.size → (∀ i ∈ o.looksAt ops, R w0.heap.size ⟨a, κ⟩ i b fp w) → Calls P f (xs.map b.eval).toArray w fun e2 w2 => ∃ u S, e2 = .returned u ∧ nb u ∧ K.p u S w2 ∧ w.Since w.heap.size w2 ∧ ∀ g, S g → w.heap.size ≤ g ∧ g < w2.heap.size)
    (hK : wpK P ops w0 Q rest ⟨a.put (some d) undef, upd κ d (some K)⟩) : wpK P ops w0 Q (o :: rest) ⟨a, κ⟩ :=
  wpK_call hg f xs tys hop henter K hb hc (by rw [hd, put_some hs]; exact hK)
theorem mem_call {f : Operand} {xs : List Operand} {tys : Array TypeId} (hop : o.op = Op.call ⟨.value f, xs.toArray, tys⟩) : ∀ x ∈ xs, x ∈ o.op.operands := fun x hx => by
  rw [hop]
  simp [Op.operands, Call.operands, hx]
/-- a call of known arguments -/
theorem sCallK (hg : o.guard = none) (hd : o.dst = some d) (hs : d < a.tmps.size) (f : FuncId) (xs : List Operand) (tys : Array TypeId) (hop : o.op = Op.call ⟨.value (.func f), xs.toArray, tys⟩) (henter : ∀ args w2, (callFunc f args).run P w2 = .ok (.enter f args) w2) (ho : avoidK ⟨a, κ⟩ o = true) (vs : List Value) (hvs : xs.map a.eval = vs) (K : Kd) (hb : K.bx = false)
    (hc : ∀ w, w0.Since w0.heap.size w → w0.heap.size ≤ w.heap.size → Calls P f vs.toArray w fun e2 w2 => ∃ u S, e2 = .returned u ∧ nb u ∧ K.p u S w2 ∧ w.Since w.heap.size w2 ∧ ∀ g, S g → w.heap.size ≤ g ∧ g < w2.heap.size)
    (hK : wpK P ops w0 Q rest ⟨a.put (some d) undef, upd κ d (some K)⟩) : wpK P ops w0 Q (o :: rest) ⟨a, κ⟩ :=
  sCall hg hd hs f xs tys hop henter K hb (fun b fp w hw hN hR => by
    have e : xs.map b.eval = vs := by
      rw [← hvs]
      refine List.map_congr_left fun x hx => ?_
      unfold avoidK at ho
      rw [Bool.and_eq_true] at ho
      have h1 := List.all_eq_true.1 ho.1 x (by simpa using mem_call hop x hx)
      cases x with
      | tmp t =>
        simp only at h1
        exact (hR t (looks_op (mem_call hop _ hx))).none_ (by simpa using h1)
      | const v => rfl
      | global g => rfl
      | func f => rfl
    rw [e]
    exact hc w hw hN) hK
/-- a call of known arguments with one known value -/
theorem sCallV (hg : o.guard = none) (hd : o.dst = some d) (hk : κ d = none) (f : FuncId) (xs : List Operand) (tys : Array TypeId) (hop : o.op = Op.call ⟨.value (.func f), xs.toArray, tys⟩) (henter : ∀ args w2, (callFunc f args).run P w2 = .ok (.enter f args) w2) (ho : avoidK ⟨a, κ⟩ o = true) (vs : List Value) (hvs : xs.map a.eval = vs) (z : Value)
    (hc : ∀ w, w0.Since w0.heap.size w → w0.heap.size ≤ w.heap.size → Calls P f vs.toArray w fun e2 w2 => e2 = .returned z ∧ w.Since w.heap.size w2)
    (hK : wpK P ops w0 Q rest ⟨a.put (some d) z, κ⟩) : wpK P ops w0 Q (o :: rest) ⟨a, κ⟩ :=
  wpK_callV hg f xs tys hop henter z (fun b fp w hw hN hR => by
    have e : xs.map b.eval = vs := by
      rw [← hvs]
      refine List.map_congr_left fun x hx => ?_
      unfold avoidK at ho
      rw [Bool.and_eq_true] at ho
      have h1 := List.all_eq_true.1 ho.1 x (by simpa using mem_call hop x hx)
      cases x with
      | tmp t =>
        simp only at h1
        exact (hR t (looks_op (mem_call hop _ hx))).none_ (by simpa using h1)
      | const v => rfl
      | global g => rfl
      | func f => rfl
    rw [e]
    exact hc w hw hN) (by rw [hd, put_known hk]; exact hK)
/-- a call, one of whose arguments is known by its properties -/
theorem sCall1 (hg : o.guard = none) (hd : o.dst = some d) (hs : d < a.tmps.size) (f : FuncId) (xs : List Operand) (tys : Array TypeId) (hop : o.op = Op.call ⟨.value (.func f), xs.toArray, tys⟩) (henter : ∀ args w2, (callFunc f args).run P w2 = .ok (.enter f args) w2) (s : Nat) (hin : (.tmp s : Operand) ∈ xs) (K0 : Kd) (hks : κ s = some K0) (V : Value → List Value)
    (hV : ∀ b : Act, (xs.map fun x => match x with | .tmp t => (match κ t with | some _ => b.tmps.getD t undef | none => a.tmps.getD t undef) | y => a.eval y) = V (b.tmps.getD s undef)) (K : Kd) (hb : K.bx = false)
    (hc : ∀ u S w, w0.Since w0.heap.size w → w0.heap.size ≤ w.heap.size → K0.p u S w → Calls P f (V u).toArray w fun e2 w2 => ∃ u S, e2 = .returned u ∧ nb u ∧ K.p u S w2 ∧ w.Since w.heap.size w2 ∧ ∀ g, S g → w.heap.size ≤ g ∧ g < w2.heap.size)
    (hK : wpK P ops w0 Q rest ⟨a.put (some d) undef, upd κ d (some K)⟩) : wpK P ops w0 Q (o :: rest) ⟨a, κ⟩ :=
  sCall hg hd hs f xs tys hop henter K hb (fun b fp w hw hN hR => by
    have e := args_eq hR (mem_call hop)
    rw [e]
    have h := (hR s (looks_op (mem_call hop _ hin))).some_ hks
    have := hc _ _ w hw hN h.2.2.1
    rw [← hV b] at this
    exact this) hK
theorem sAlloc (hg : o.guard = none) (hd : o.dst = some d) (hs : d < a.tmps.size) (elem : TypeId) (hop : o.op = .alloc elem) (T : TypeId) (cs : List Value) (hrun : ∀ w : World, (Instr.alloc elem true (.tuple #[])).run P w = .ok (.pointer (some ⟨w.heap.size, 0, none⟩)) (w.alloc (.cells cs.toArray T)))
    (hK : wpK P ops w0 Q rest ⟨a.put (some d) undef, upd κ d (some (bxK T (· = cs)))⟩) : wpK P ops w0 Q (o :: rest) ⟨a, κ⟩ :=
  wpK_alloc hg elem hop T cs hrun (by rw [hd, put_some hs]; exact hK)
/-- a known struct is stored into a box of the statement's own -/
theorem sStore (hg : o.guard = none) (ty : TypeId) (p : Nat) (y : Operand) (hop : o.op = .store ty (.tmp p) y) (hd : o.dst = none) (T : TypeId) (Pc : List Value → Prop) (hk : κ p = some (bxK T Pc)) (n : Nat) (hn : ∀ cs, Pc cs → cs.length = n) (hi : (P.info? ty).map (·.size) = some n)
    (ho : avoidK ⟨a, fun i => if i = p then none else κ i⟩ o = true) (cs : List Value) (hy : a.eval y = .agg cs.toArray) (hyp : y ≠ .tmp p) (hl : cs.length = n) (h1 : cs.toArray.all (·.oneCell') = true)
    (hK : wpK P ops w0 Q rest ⟨a, upd κ p (some (bxK T (· = cs)))⟩) : wpK P ops w0 Q (o :: rest) ⟨a, κ⟩ :=
  wpK_store hg ty p y hop hd T Pc (· = cs) hk n hn hi (fun b fp w hw hN hR => ⟨cs, by
    rw [← hy]
    unfold avoidK at ho
    rw [Bool.and_eq_true] at ho
    cases y with
    | tmp t =>
      have h1 := List.all_eq_true.1 ho.1 (.tmp t) (by rw [hop]; simp [Op.operands])
      have hne : t ≠ p := fun e => hyp (by rw [e])
      simp only [if_neg hne] at h1
      exact (hR t (looks_op (by rw [hop]; simp [Op.operands]))).none_ (by simpa using h1)
    | const v => rfl
    | global g => rfl
    | func f => rfl, hl, rfl, h1⟩) (by rw [hd]; simpa [Fa.put, Act.put, k2, k1] using hK)
/-- a struct known by its properties is stored into a box of the statement's own -/
theorem sStoreK (hg : o.guard = none) (ty : TypeId) (p s : Nat) (hop : o.op = .store ty (.tmp p) (.tmp s)) (hd : o.dst = none) (T : TypeId) (Pc Pc' : List Value → Prop) (hk : κ p = some (bxK T Pc)) (K : Kd) (hks : κ s = some K) (n : Nat) (hn : ∀ cs, Pc cs → cs.length = n) (hi : (P.info? ty).map (·.size) = some n)
    (hy : ∀ u S w, K.p u S w → ∃ cs : List Value, u = .agg cs.toArray ∧ cs.length = n ∧ Pc' cs ∧ cs.toArray.all (·.oneCell') = true)
    (hK : wpK P ops w0 Q rest ⟨a, upd κ p (some (bxK T Pc'))⟩) : wpK P ops w0 Q (o :: rest) ⟨a, κ⟩ :=
  wpK_store hg ty p (.tmp s) hop hd T Pc Pc' hk n hn hi (fun b fp w hw hN hR => hy _ _ _ ((hR s (looks_op (by rw [hop]; simp [Op.operands]))).some_ hks).2.2.1) (by rw [hd]; simpa [Fa.put, Act.put, k2, k1] using hK)
end
/-! ### the end -/
theorem After.slot {w0 : World} {A : Fa} {Rr : Act → (Nat → Fp) → World → Prop} (d : Nat) (K : Kd) (hk : A.κ d = some K)
    (h : ∀ u, nb u → After w0 ⟨A.a.put (some d) u, upd A.κ d none⟩ fun b fp w => K.p u (fp d) w → (∀ g, fp d g → g < w.heap.size) → (K.bx = true → ∀ g, fp d g → w0.heap.size ≤ g) → Rr b fp w) : After w0 A Rr := by
  intro b fp w hw hN hab
  have hd := (hab.2.2.1 d).some_ hk
  refine h (b.tmps.getD d undef) hd.2.1 b fp w hw hN ⟨hab.1, by rw [put_size]; exact hab.2.1, fun i => ?_, fun i j K1 K2 hij hi hj hb => ?_⟩ hd.2.2.1 hd.2.2.2.1 hd.2.2.2.2
  · by_cases e : i = d
    · subst e
      refine R_of_none (by simp [upd]) ?_
      show _ = (A.a.tmps.setIfInBounds i (b.tmps.getD i undef)).getD i undef
      rw [Lo.getD_put]
      by_cases hs : i < A.a.tmps.size
      · rw [if_pos ⟨rfl, hs⟩]
      · rw [if_neg (fun h => hs h.2)]
        have e1 : A.a.tmps.getD i undef = undef := by simp [Array.getD_eq_getD_getElem?, Array.getElem?_eq_none (Nat.le_of_not_lt hs)]
        have e2 : b.tmps.getD i undef = undef := by
          have h2 := hab.2.1
          simp [Array.getD_eq_getD_getElem?, Array.getElem?_eq_none (show b.tmps.size ≤ i by rw [h2]; exact Nat.le_of_not_lt hs)]
        rw [e1, e2]
    · have hki : (Fa.mk (A.a.put (some d) (b.tmps.getD d undef)) (upd A.κ d none)).κ i = A.κ i := by simp [upd, e]
      have hv : (A.a.put (some d) (b.tmps.getD d undef)).tmps.getD i undef = A.a.tmps.getD i undef := by
        show (A.a.tmps.setIfInBounds d (b.tmps.getD d undef)).getD i undef = _
        rw [Lo.getD_put, if_neg (fun h => e h.1.symm)]
      have h3 := hab.2.2.1 i
      unfold R at h3 ⊢
      rw [hki]
      simp only [hv]
      exact h3
  · have hi' : i ≠ d ∧ A.κ i = some K1 := by
      by_cases e : i = d
      · subst e; simp [upd] at hi
      · exact ⟨e, by simpa [upd, e] using hi⟩
    have hj' : j ≠ d ∧ A.κ j = some K2 := by
      by_cases e : j = d
      · subst e; simp [upd] at hj
      · exact ⟨e, by simpa [upd, e] using hj⟩
    exact hab.2.2.2 i j K1 K2 hij hi'.2 hj'.2 hb
theorem After.apart {w0 : World} {A : Fa} {Rr : Act → (Nat → Fp) → World → Prop} (i j : Nat) (K K' : Kd) (hi : A.κ i = some K) (hj : A.κ j = some K') (hb : K.bx = true) (hne : i ≠ j)
    (h : After w0 A fun b fp w => (∀ g, fp i g → ¬ fp j g) → Rr b fp w) : After w0 A Rr := fun b fp w hw hN hab => h b fp w hw hN hab (hab.2.2.2 i j K K' hne hi hj hb)
def nbut (ds : List Nat) (κ : Nat → Option Kd) : Prop := ∀ i, i ∉ ds → κ i = none
theorem nbut.start {ds : List Nat} : nbut ds (fun _ => none) := fun _ _ => rfl
theorem nbut.upd {ds : List Nat} {κ : Nat → Option Kd} {d : Nat} {k : Option Kd} (hd : d ∈ ds) (h : nbut ds κ) : nbut ds (Lk.upd κ d k) := fun i hi => by
  have : i ≠ d := fun e => hi (e ▸ hd)
  simp only [Lk.upd, if_neg this]
  exact h i hi
theorem After.end_ {w0 : World} {a : Act} {κ : Nat → Option Kd} {Rr : Act → (Nat → Fp) → World → Prop} (ds : List Nat) (hn : nbut ds κ) (hk : (ds.all fun d => (κ d).isNone) = true) (h : ∀ fp w, w0.Since w0.heap.size w → Rr a fp w) : After w0 ⟨a, κ⟩ Rr := by
  intro b fp w hw hN hab
  obtain ⟨h1, h2, h3, _⟩ := hab
  have hall : ∀ i, κ i = none := fun i => by
    by_cases hi : i ∈ ds
    · have := List.all_eq_true.1 hk i hi
      simpa using this
    · exact hn i hi
  have e : b = a := by
    obtain ⟨bt, bd⟩ := b
    obtain ⟨at_, ad⟩ := a
    simp only at h1 h2 h3
    subst h1
    congr 1
    apply Array.ext h2
    intro i hi1 hi2
    have := (h3 i).none_ (hall i)
    simpa [Array.getD_eq_getD_getElem?, hi1, hi2] using this
  subst e
  exact h fp w hw
end Lk
end Go.Proofs.Ytagcepankiinpaa

/- What is known of a slot: lists of numbers, boxes. -/
set_option linter.unusedVariables false
set_option linter.unusedSimpArgs false
namespace Go.Proofs.Ytagcepankiinpaa
open Fl Go.RowKit
namespace Lk
/-- an entry among these blocks, behind lo -/
def EnK (lo : Nat) (e : En) (S : Fp) (w : World) : Prop := e.P w ∧ (∀ w w' : World, (∀ g, e.S g → w'.heap[g]? = w.heap[g]?) → e.P w → e.P w') ∧ (∀ k, e.S k → S k) ∧ ∀ k, e.S k → lo ≤ k
theorem EnK.keep {lo : Nat} {e : En} {S : Fp} {w w' : World} (h : EnK lo e S w) (hs : ∀ g, S g → w'.heap[g]? = w.heap[g]?) : EnK lo e S w' := ⟨h.2.1 w w' (fun g hg => hs g (h.2.2.1 g hg)) h.1, h.2⟩
theorem EnK.of {lo B : Nat} {e : En} {w : World} (h : Ge B w e) (hl : lo ≤ B) : EnK lo e e.S w := ⟨h.1, h.2.1, fun _ h => h, fun k hk => Nat.le_trans hl (h.2.2 k hk).1⟩
theorem EnK.ge {lo : Nat} {e : En} {S : Fp} {w : World} (h : EnK lo e S w) (hb : ∀ g, S g → g < w.heap.size) : Ge lo w e := ⟨h.1, h.2.1, fun g hg => ⟨h.2.2.2 g hg, hb g (h.2.2.1 g hg)⟩⟩
theorem EnK.readF {lo n : Nat} {A : Option Addr} {xs : List Nat} {S : Fp} {w : World} (h : EnK lo (fe A n xs) S w) : Fs w w.heap.size A n xs :=
  ⟨h.1.1.1, h.1.1.2, fun hn => by
    obtain ⟨g, off, cs, e, hb, hc⟩ := h.1.2 hn
    refine ⟨g, off, e, (Array.getElem?_eq_some_iff.1 hb).1, fun k hk => ?_⟩
    simp only [World.cell?, hb]
    simpa using hc k hk⟩
/-- a copy of numbers -/
def xK (lo n : Nat) (xs : List Nat) : Kd where
  p := fun u S w => ∃ B : Nat, u = .slice (some ⟨B, 0, none⟩) n n ∧ EnK lo (fe (some ⟨B, 0, none⟩) n xs) S w
  stable := fun u S w w' h hp => by
    obtain ⟨B, e, hb⟩ := hp
    exact ⟨B, e, hb.keep h⟩
  bx := false
/-- a list of numbers -/
def feK (lo n0 : Nat) (f0 : Nat → O) : Kd where
  p := fun u S w => ∃ (p : Ls) (c : Nat), u = .slice p.A p.n c ∧ p.n = n0 ∧ Are p f0 ∧ EnK lo (fe p.A p.n p.xs) S w
  stable := fun u S w w' h hp => by
    obtain ⟨p, c, e, h1, h2, hb⟩ := hp
    exact ⟨p, c, e, h1, h2, hb.keep h⟩
  bx := false
theorem box_ge {T : TypeId} {Pc : List Value → Prop} {u : Value} {S : Fp} {w : World} {lo : Nat} (h : (bxK T Pc).p u S w) (hb : ∀ g, S g → g < w.heap.size) (hl : ∀ g, S g → lo ≤ g) : ∃ g cs, u = .pointer (some ⟨g, 0, none⟩) ∧ Pc cs ∧ (∀ k, S k ↔ k = g) ∧ Ge lo w (bxv T g cs) := by
  obtain ⟨g, cs, e, hS, hh, hc⟩ := h
  exact ⟨g, cs, e, hc, hS, hh, fun w w' h hp => (h g rfl).trans hp, fun k hk => by
    have hk' : k = g := hk
    subst hk'
    exact ⟨hl k ((hS k).2 rfl), hb k ((hS k).2 rfl)⟩⟩
theorem box_de {T : TypeId} {g : Nat} {cs : List Value} {S S' : Fp} {e : En} {lo : Nat} {w : World} (hS : ∀ k, S k ↔ k = g) (hd : ∀ k, S k → ¬ S' k) (h : EnK lo e S' w) : De (bxv T g cs) e := fun k hk he => hd k ((hS k).2 hk) (h.2.2.1 k he)
end Lk
end Go.Proofs.Ytagcepankiinpaa

/- Loose regions with guards. -/
set_option linter.unusedVariables false
set_option linter.unusedSimpArgs false
namespace Go.Proofs.Ytagcepankiinpaa
open Fl Go.RowKit
namespace Lk
section
variable {P : Program} {ops : Array Oper} {w0 : World} {Q : Fa → Prop} {A : Fa} {o : Oper} {rest : List Oper}
/-- an operation without its guard -/
def free (o : Oper) : Oper := { o with guard := none }
theorem looks_free {i : Nat} (h : i ∈ (free o).looksAt ops) : i ∈ o.looksAt ops := by
  unfold Oper.looksAt at h ⊢
  rcases List.mem_append.1 h with h | h
  · exact List.mem_append_left _ h
  · cases h
theorem good_free {N : Nat} {b : Act} {fp : Nat → Fp} {w : World} {e : Ef} {u : Value} {w' : World} (h : good ops N (free o) A b fp w e u w') : good ops N o A b fp w e u w' := by
  obtain ⟨x, st⟩ := e
  unfold good at h ⊢
  refine ⟨?_, h.2⟩
  cases x with
  | v z => exact h.1
  | k K =>
    obtain ⟨h1, S, h2, h3, h4⟩ := h.1
    refine ⟨h1, S, h2, h3, fun g hg => ⟨(h4 g hg).1, ?_⟩⟩
    rcases (h4 g hg).2 with h5 | h5 | ⟨j, K', h6, h7⟩
    · exact .inl h5
    · exact .inr (.inl h5)
    · exact .inr (.inr ⟨j, K', looks_free h6, h7⟩)
theorem upon_mono {G H : Value → World → Prop} (hGH : ∀ u w, G u w → H u w) {r : Result Next} (h : upon P G r) : upon P H r := by
  cases r with
  | ok n w2 =>
    cases n with
    | value u => exact hGH _ _ h
    | skip => exact hGH _ _ h
    | enter f args => exact Calls.mono h fun e w3 ⟨u, he, hu⟩ => ⟨u, he, hGH _ _ hu⟩
    | _ => exact h
  | halt x w2 => exact h
/-- an operation whose guard says yes -/
theorem wpK_yes {q : Nat × Bool} (hg : o.guard = some q) (hw : Region.wanted o (yielded ops A.a.tmps) = true) (h : wpK P ops w0 Q (⟨o.dst, o.op, o.type, o.pos, o.after, none⟩ :: rest) A) : wpK P ops w0 Q (o :: rest) A := by
  have h' : wpK P ops w0 Q (free o :: rest) A := h
  unfold wpK at h' ⊢
  rw [if_pos hw]
  rw [if_pos (Lo.wanted_none rfl _)] at h'
  obtain ⟨e, ⟨h1, h2⟩, hK⟩ := h'
  refine ⟨e, ⟨h1, fun b fp w hw hN hs hR => ?_⟩, hK⟩
  exact upon_mono (fun u w' hg => good_free hg) (h2 b fp w hw hN hs fun i hi => hR i (looks_free hi))
end
section
variable {P : Program} {ops : Array Oper} {w0 : World} {Q : Fa → Prop} {a : Act} {κ : Nat → Option Kd} {o : Oper} {rest : List Oper} {d : Nat}
/-- an operation whose guard says no -/
theorem sSkip {q : Nat × Bool} (hg : o.guard = some q) (hw : Region.wanted o (yielded ops a.tmps) = false) (hd : o.dst = some d) (hk : κ d = none) (hK : wpK P ops w0 Q rest ⟨a.put (some d) undef, κ⟩) : wpK P ops w0 Q (o :: rest) ⟨a, κ⟩ := by
  unfold wpK
  rw [if_neg (by rw [hw]; decide), hd, put_known hk]
  exact hK
theorem sYes {q : Nat × Bool} (hg : o.guard = some q) (hw : Region.wanted o (yielded ops a.tmps) = true) (h : wpK P ops w0 Q (⟨o.dst, o.op, o.type, o.pos, o.after, none⟩ :: rest) ⟨a, κ⟩) : wpK P ops w0 Q (o :: rest) ⟨a, κ⟩ := wpK_yes hg hw h
/-- a float, whatever its bits if it is none -/
def yF (Y : O) : Kd where
  p := fun u S w => ∃ q : Nat, u = .float .f32 q ∧ Hid (Fv .f32 q Y)
  stable := fun u S w w' h hp => hp
  bx := false
/-- an operation on floats, whose result may be none -/
theorem sFop (hg : o.guard = none) (hd : o.dst = some d) (hs : d < a.tmps.size) (ho : avoidK ⟨a, κ⟩ o = true) (op : BinOp) (t t2 : TypeId) (x y : Operand) (hop : o.op = Op.binOp op t x y t2) (hf : isF op = true) (p q : Nat) (X Y : O)
    (hx : a.eval x = .float .f32 p) (hy : a.eval y = .float .f32 q) (hX : Hid (Fv .f32 p X)) (hY : Hid (Fv .f32 q Y)) (hK : wpK P ops w0 Q rest ⟨a.put (some d) undef, upd κ d (some (yF (opO op .f32 X Y)))⟩) : wpK P ops w0 Q (o :: rest) ⟨a, κ⟩ := by
  refine wpK_of_loose (e := ⟨.k (yF (opO op .f32 X Y)), none⟩) hg ⟨fun q hq => (by cases hq), fun b fp w hw hN _ hR => ?_⟩ (by rw [hd, put_some hs]; exact hK)
  rw [eval_avoidK hR ho]
  have e : (execOp a.eval o).run P w = .ok (.value (.float .f32 (ov op .f32 p q w))) (w.drewN (on op .f32 p q)) := by
    have he : eqGuard op t x y (.float .f32 p) (.float .f32 q) = pure () := by
      unfold eqGuard
      cases op <;> simp only [isF] at hf <;> first | (cases hf; done) | rfl
    unfold execOp
    simp only [hop, hx, hy, he, Sem.run_bind, run_fopE hf, Result.andThen_ok, Sem.run_pure]
  rw [e]
  refine ⟨⟨trivial, fun _ => False, ⟨_, rfl, Lib.hid ?_⟩, (fun h => by cases h), fun g hg => hg.elim⟩, since_drewN (World.Since.refl _ _) _⟩
  have := ov_fv hf .f32 p q w
  rw [hX.out.2, hY.out.2] at this
  exact this
/-- a call with one argument known by its properties, and one known value -/
theorem sCall1V (hg : o.guard = none) (hd : o.dst = some d) (hkd : κ d = none) (f : FuncId) (xs : List Operand) (tys : Array TypeId) (hop : o.op = Op.call ⟨.value (.func f), xs.toArray, tys⟩) (henter : ∀ args w2, (callFunc f args).run P w2 = .ok (.enter f args) w2) (s : Nat) (hin : (.tmp s : Operand) ∈ xs) (K0 : Kd) (hks : κ s = some K0) (V : Value → List Value)
    (hV : ∀ b : Act, (xs.map fun x => match x with | .tmp t => (match κ t with | some _ => b.tmps.getD t undef | none => a.tmps.getD t undef) | y => a.eval y) = V (b.tmps.getD s undef)) (z : Value)
    (hc : ∀ u S w, w0.Since w0.heap.size w → w0.heap.size ≤ w.heap.size → K0.p u S w → Calls P f (V u).toArray w fun e2 w2 => e2 = .returned z ∧ w.Since w.heap.size w2)
    (hK : wpK P ops w0 Q rest ⟨a.put (some d) z, κ⟩) : wpK P ops w0 Q (o :: rest) ⟨a, κ⟩ :=
  wpK_callV hg f xs tys hop henter z (fun b fp w hw hN hR => by
    have e := args_eq hR (mem_call hop)
    rw [e]
    have h := (hR s (looks_op (mem_call hop _ hin))).some_ hks
    have := hc _ _ w hw hN h.2.2.1
    rw [← hV b] at this
    exact this) (by rw [hd, put_known hkd]; exact hK)
/-- a cell is loaded that lies before the statement's own memory -/
theorem sLoadF (hg : o.guard = none) (hd : o.dst = some d) (hk : κ d = none) (ho : avoidK ⟨a, κ⟩ o = true) (ty : TypeId) (x : Operand) (hop : o.op = .load ty x) (p : Addr) (hx : a.eval x = .pointer (some p)) (val : Value)
    (hS : ∀ v, w0.Since w0.heap.size v → (loadVar ty p).run P v = .ok val v)
    (hK : wpK P ops w0 Q rest ⟨a.put (some d) val, κ⟩) : wpK P ops w0 Q (o :: rest) ⟨a, κ⟩ :=
  sTold hg hd hk ho _ (fun w hw _ => ⟨w, by
    unfold execOp
    simp only [hop, hx, Instr.loadAt, Instr.sureAddr, Sem.run_bind, Sem.run_pure, Result.andThen_ok, hS w hw], World.Since.refl _ _⟩) hK
end
theorem loadF {w : World} {p : Addr} {x : Nat} (h : w.cell? p = some (.float .f32 x)) : (loadVar 24 p).run Try.prog w = .ok (.float .f32 x) w := by
  simp [loadVar, go_sem, h]
end Lk
end Go.Proofs.Ytagcepankiinpaa

/- Folds: rows of floats that whole lists are appended to; the model's fold. -/
set_option linter.unusedVariables false
set_option linter.unusedSimpArgs false
namespace Go.Proofs.Ytagcepankiinpaa
open Fl Go.RowKit
theorem fvl_app (xs ys : List Nat) : fvl xs ++ fvl ys = fvl (xs ++ ys) := by unfold fvl; simp
theorem wd_app (xs ys : List Nat) (j : Nat) : wd (xs ++ ys) j = if j < xs.length then wd xs j else wd ys (j - xs.length) := by
  unfold wd
  split
  · next h => simp [List.getD_eq_getElem?_getD, List.getElem?_append_left h]
  · next h => simp [List.getD_eq_getElem?_getD, List.getElem?_append_right (Nat.le_of_not_lt h)]
set_option maxRecDepth 100000 in
theorem wpList_appN {ops : Array Oper} {rest : List Oper} {o : Oper} {a : Act} {Q : Exit → Act → World → Prop} {w : World} (hgd : o.guard = none) (s x : Operand)
    (ho : o.op = .call { callee := .builtin .append, args := #[s, x], argTypes := #[30, 30] }) (lo : Nat) (v : Value) (k : Nat) (F : Nat → O) (hs : a.eval s = v) (A : Option Addr) (m c : Nat) (xs : List Nat) (B : Nat)
    (hx : a.eval x = .slice A m c) (hnone : A = none → m = 0 ∧ c = 0) (hA : Hid (Fs w B A m xs)) (hF : ∀ j, j < m → F (k + j) = ab .f32 (wd xs j)) (hk : k + m ≤ 1048576) (hlo : lo ≤ w.heap.size) (hR : Rw lo w v k F)
    (h : ∀ v' w', Hid (Rw lo w' v' (k + m) F) → Hid (w.Since lo w') → wpList Try.prog ops Q rest (a.put o.dst v') w') : wpList Try.prog ops Q (o :: rest) a w := by
  obtain ⟨os, h1, h2, h3⟩ := hR
  obtain ⟨i0, hi, hz0, hz1, hz2⟩ := info_parts Try.infoF
  have HA := hA.out
  cases A with
  | none =>
    obtain ⟨rfl, rfl⟩ := hnone rfl
    exact wpList_append_own_none (P := Try.prog) hgd s x 30 ho lo 24 i0 1 Try.underlying30 hi v k (fvl os) (by rw [hs]) h1 hx (h v w (Lib.hid ⟨os, h1, h2, h3⟩) (Lib.hid (World.Since.refl _ _)))
  | some ad =>
  refine wpList_append_own (P := Try.prog) w hgd s x 30 ho lo 24 i0 (.float .f32 0) 1 4 Try.underlying30 hi hz0 hz1 hz2 rfl (by omega) v k (fvl os) hs h1 ad m c (fvl xs) hx ?_ ?_ ?_ ?_ ?_ hlo ?_
  · rw [fvl, List.length_map, HA.1, Nat.mul_one]
  · intro j u hj
    have hlt : j < m := by
      have := (List.getElem?_eq_some_iff.1 hj).1
      rw [fvl, List.length_map, HA.1] at this; exact this
    obtain ⟨g, off, e, _, hc⟩ := HA.2.2 (by omega)
    injection e with e
    subst e
    have := hc j hlt
    rw [show (Addr.mk g off none).add j = ⟨g, off + j, none⟩ by simp [Addr.add], this]
    rw [← hj]
    unfold fvl fv wd
    simp [List.getD_eq_getElem?_getD, List.getElem?_eq_getElem (show j < xs.length by rw [HA.1]; exact hlt)]
  · intro u hu
    obtain ⟨x, _, rfl⟩ := List.mem_map.1 hu
    rfl
  · unfold maxLen; omega
  · omega
  · intro v' w' hown hg _
    have hyl : os.length = k := by simpa [fvl] using h1.1
    refine h v' w' (Lib.hid ⟨os ++ xs, ?_, fun x hx => ?_, fun j hj => ?_⟩) (Lib.hid ⟨hg.os, hg.tape, hg.output, hg.size, fun i hi => ?_⟩)
    · rw [← fvl_app]; exact hown
    · rcases List.mem_append.1 hx with h4 | h4
      · exact h2 x h4
      · exact HA.2.1 x h4
    · rw [wd_app, hyl]
      by_cases e : j < k
      · rw [if_pos e]; exact h3 j e
      · rw [if_neg e, ← hF (j - k) (by omega)]; congr 1; omega
    · refine hg.block i (by omega) fun e => ?_
      have := own_lo h1 i e.symm
      omega
theorem Rw.end_ {lo : Nat} {w : World} {v : Value} {k : Nat} {F : Nat → O} (h : Rw lo w v k F) : ∃ (A : Option Addr) (c : Nat) (xs : List Nat), v = .slice A k c ∧ k ≤ c ∧ (A = none → k = 0 ∧ c = 0) ∧ (∀ a, A = some a → ∃ g, a = ⟨g, 0, none⟩ ∧ lo ≤ g) ∧ Gs 24 w lo A k xs ∧ Are ⟨A, k, xs⟩ F := by
  obtain ⟨os, h1, hs, hf⟩ := h
  rcases h1.2 with ⟨rfl, rfl⟩ | ⟨g, cap, cur, rfl, hg, _, hk, _⟩
  · exact ⟨none, 0, os, rfl, Nat.le_refl _, fun _ => ⟨rfl, rfl⟩, (fun a h => by cases h), Gs.of_own h1 hs, hf⟩
  · exact ⟨some ⟨g, 0, none⟩, cap, os, rfl, hk, (fun h => by cases h), fun a h => by cases h; exact ⟨g, rfl, hg⟩, Gs.of_own h1 hs, hf⟩
theorem Fs.nil_ {w : World} {A : Option Addr} : Fs w 0 A 0 [] := ⟨rfl, (fun x hx => by cases hx), (fun h => by omega)⟩
/-- the last ones of a list -/
theorem Fs.tail {w : World} {B n m : Nat} {g off : Nat} {xs : List Nat} (h : Fs w B (some ⟨g, off, none⟩) (n + m) xs) : Fs w B (some ⟨g, off + n, none⟩) m (xs.drop n) :=
  ⟨by rw [List.length_drop, h.1]; omega, fun x hx => h.2.1 x (List.mem_of_mem_drop hx), fun hm => by
    obtain ⟨g', off', e, hg, hc⟩ := h.2.2 (by omega)
    injection e with e
    injection e with e1 e2 _
    subst e1; subst e2
    refine ⟨g, off + n, rfl, hg, fun k hk => ?_⟩
    have := hc (n + k) (by omega)
    rw [← Nat.add_assoc] at this
    rw [this]
    unfold fv wd
    simp [List.getD_eq_getElem?_getD]⟩
theorem wd_drop (xs : List Nat) (n k : Nat) : wd (xs.drop n) k = wd xs (n + k) := by unfold wd; simp [List.getD_eq_getElem?_getD]
def apO (xs ys : List Nat) (n j : Nat) : O := if j < n then ab .f32 (wd xs j) else ab .f32 (wd ys (j - n))
def fsum (T Z : Nat → O) (p : Nat) : Nat → O
  | 0 => some 0
  | k + 1 => opO .add .f32 (fsum T Z p k) (opO .mul .f32 (T k) (Z (p - k)))
def foldF (T Z : Nat → O) (l t i : Nat) : O := fsum T Z (l + i) t
def offO (Z : Nat → O) (n j : Nat) : O := Z (n + j)
def PEE (n0 : Nat) (f0 : Nat → O) (n1 : Nat) (f1 : Nat → O) (w : World) (e : Ending) (w' : World) : Prop :=
  ∃ (p q : Ls) (c d : Nat), e = .returned (.tuple #[.slice p.A p.n c, .slice q.A q.n d]) ∧ Hid (p.n = n0) ∧ Hid (q.n = n1) ∧ Hid (Ge w.heap.size w' (fe p.A p.n p.xs)) ∧ Hid (Ge w.heap.size w' (fe q.A q.n q.xs)) ∧ Hid (Are p f0) ∧ Hid (Are q f1) ∧ Hid (De (fe p.A p.n p.xs) (fe q.A q.n q.xs)) ∧ Hid (w.Since w.heap.size w')
end Go.Proofs.Ytagcepankiinpaa

/- Draws: the gate as a list of its own, blocks of it, and when it is open. -/
set_option linter.unusedVariables false
set_option linter.unusedSimpArgs false
namespace Go.Proofs.Ytagcepankiinpaa
open Fl Go.RowKit
/-- a list of numbers in a block of its own, with the places behind it -/
def PLIBo (n : Nat) (f : Nat → O) (i : Int) (b : Bool) (w : World) (e : Ending) (w' : World) : Prop :=
  ∃ (g c : Nat) (xs : List Nat), e = .returned (.tuple #[.slice (some ⟨g, 0, none⟩) n c, .int .i64 i, .bool b]) ∧ n ≤ c ∧ Gs 24 w' w.heap.size (some ⟨g, 0, none⟩) n xs ∧ Are ⟨some ⟨g, 0, none⟩, n, xs⟩ f ∧ w.Since w.heap.size w'
/-! blocks -/
theorem gateH_cut (X : Nat → O) (T : O) (hold held : Int) (a : Nat) : ∀ k, gateH (fun j => X (a + j)) T hold (gateH X T hold held a) k = gateH X T hold held (a + k)
  | 0 => rfl
  | k + 1 => by
    show (if geO (sizeO (X (a + k))) T then hold else _) = (if geO (sizeO (X (a + k))) T then hold else _)
    rw [gateH_cut X T hold held a k]
    rfl
theorem gateY_cut (X : Nat → O) (T : O) (hold held : Int) (a k : Nat) : gateY (fun j => X (a + j)) T hold (gateH X T hold held a) k = gateY X T hold held (a + k) := by
  unfold gateY
  rw [gateH_cut]
theorem gateH_like {X Y : Nat → O} {T : O} {hold held : Int} {n : Nat} (h : ∀ k, k < n → X k = Y k) : ∀ k, k ≤ n → gateH X T hold held k = gateH Y T hold held k
  | 0, _ => rfl
  | k + 1, hk => by
    unfold gateH
    rw [gateH_like h k (by omega), h k (by omega)]
theorem gateY_like {X Y : Nat → O} {T : O} {hold held : Int} {n : Nat} (h : ∀ k, k < n → X k = Y k) (k : Nat) (hk : k < n) : gateY X T hold held k = gateY Y T hold held k := by
  unfold gateY
  rw [gateH_like h k (by omega), h k hk]
/-! when it is open -/
/-- the last loud place before k -/
def lastO (X : Nat → O) (T : O) : Nat → Int
  | 0 => -1
  | k + 1 => if geO (sizeO (X k)) T then (k : Int) else lastO X T k
theorem lastO_in (X : Nat → O) (T : O) : ∀ k, -1 ≤ lastO X T k ∧ lastO X T k < (k : Int)
  | 0 => by unfold lastO; omega
  | k + 1 => by
    have := lastO_in X T k
    unfold lastO
    split <;> omega
theorem gateH_last (X : Nat → O) (T : O) (hold : Int) (h0 : 0 ≤ hold) : ∀ k, gateH X T hold 0 k = if 0 ≤ lastO X T k ∧ (k : Int) - 1 - lastO X T k ≤ hold then hold - ((k : Int) - 1 - lastO X T k) else 0
  | 0 => by unfold gateH lastO; simp
  | k + 1 => by
    have ih := gateH_last X T hold h0 k
    have hi := lastO_in X T k
    unfold gateH lastO
    by_cases h : geO (sizeO (X k)) T = true
    · rw [if_pos h, if_pos h, if_pos (by omega)]; omega
    · rw [if_neg h, if_neg h, ih]
      by_cases h1 : 0 ≤ lastO X T k ∧ (k : Int) - 1 - lastO X T k ≤ hold
      · rw [if_pos h1]
        by_cases h2 : 0 < hold - ((k : Int) - 1 - lastO X T k)
        · rw [if_pos h2, if_pos (by omega)]; omega
        · rw [if_neg h2, if_neg (by omega)]; omega
      · rw [if_neg h1, if_neg (by omega), if_neg (by omega)]
theorem gateY_open (X : Nat → O) (T : O) (hold : Int) (h0 : 0 ≤ hold) (k : Nat) : gateY X T hold 0 k = if 0 ≤ lastO X T (k + 1) ∧ (k : Int) - lastO X T (k + 1) ≤ hold then X k else some 0 := by
  have hH := gateH_last X T hold h0 k
  have hi := lastO_in X T k
  unfold gateY lastO
  by_cases h : geO (sizeO (X k)) T = true
  · rw [if_pos h, if_pos h, if_pos (by omega)]
  · rw [if_neg h, if_neg h, hH]
    by_cases h1 : 0 ≤ lastO X T k ∧ (k : Int) - lastO X T k ≤ hold
    · rw [if_pos h1, if_pos (by rw [if_pos (by omega)]; omega)]
    · rw [if_neg h1, if_neg]
      split <;> omega
/-! the greater one of a number and its opposite -/
theorem neg32 (b : Nat) (h : b < 4294967296) : Op.negFloat .f32 b = if b < 2147483648 then b + 2147483648 else b - 2147483648 := by
  have e2 := neg_mod .f32 b
  rw [sw32] at e2
  unfold Op.negFloat at e2 ⊢
  have e3 : (b ^^^ (2 ^ (FloatKind.f32.format.exponentBits + FloatKind.f32.format.fractionBits))) / 2147483648 = (b / 2147483648) ^^^ 1 := by
    rw [show (2 : Nat) ^ (FloatKind.f32.format.exponentBits + FloatKind.f32.format.fractionBits) = 2 ^ 31 by decide, show (2147483648 : Nat) = 2 ^ 31 by decide, ← Nat.shiftRight_eq_div_pow, Nat.shiftRight_xor_distrib, Nat.shiftRight_eq_div_pow, Nat.shiftRight_eq_div_pow]
  by_cases hb : b < 2147483648
  · rw [show b / 2147483648 = 0 by omega] at e3
    rw [if_pos hb]
    have : (0 ^^^ 1 : Nat) = 1 := by decide
    omega
  · rw [show b / 2147483648 = 1 by omega] at e3
    rw [if_neg hb]
    have : (1 ^^^ 1 : Nat) = 0 := by decide
    omega
theorem ge_key {x t : Nat} (hx : ab .f32 x = some x) (ht : ab .f32 t = some t) : geO (some x) (some t) = decide (key .f32 t ≤ key .f32 x) := by
  unfold geO gtO eqO ordO
  show ((FloatKind.f32.format.order x t == some .gt) || (FloatKind.f32.format.order x t == some .eq)) = _
  rw [order_key .f32 hx ht, cmp_def]
  rcases Int.lt_trichotomy (key .f32 x) (key .f32 t) with h | h | h
  · rw [if_pos h, decide_eq_false (by omega)]; rfl
  · rw [if_neg (by omega), if_pos h, decide_eq_true (by omega)]; rfl
  · rw [if_neg (by omega), if_neg (by omega), decide_eq_true (by omega)]; rfl
theorem ge_none (X : O) : geO X none = false := by cases X <;> rfl
theorem ge_size (x : Nat) (hx : x < 4294967296) (T : O) (t : Nat) (ht : Fv .f32 t T) : geO (sizeO (ab .f32 x)) T = (geO (ab .f32 x) T || geO (ab .f32 (Op.negFloat .f32 x)) T) := by
  obtain ⟨ht1, ht2⟩ := ht
  subst ht2
  have ht1' : t < 4294967296 := ht1
  have hm := neg_mod .f32 x
  rw [sw32] at hm
  rw [ab32 t]
  split
  · rw [ge_none, ge_none, ge_none]; rfl
  · next h1 =>
    rw [ab32 x, ab32 (Op.negFloat .f32 x), hm]
    by_cases h2 : 2139095040 < x % 2147483648
    · rw [if_pos h2, if_pos h2]; rfl
    · rw [if_neg h2, if_neg h2]
      have a1 : ab .f32 t = some t := by rw [ab32, if_neg h1]
      have a2 : ab .f32 x = some x := by rw [ab32, if_neg h2]
      have a3 : ab .f32 (Op.negFloat .f32 x) = some (Op.negFloat .f32 x) := by rw [ab32, hm, if_neg h2]
      have a4 : ab .f32 (sizeN x) = some (sizeN x) := by unfold sizeN; rw [ab32, Nat.mod_mod, if_neg h2]
      show geO (some (sizeN x)) (some t) = _
      rw [ge_key a4 a1, ge_key a2 a1, ge_key a3 a1]
      have hn := neg32 x hx
      have l3 : Op.negFloat .f32 x < 4294967296 := neg_lt .f32 hx
      have l4 : sizeN x < 4294967296 := sizeN_lt x
      rw [key32 _ l4, key32 _ hx, key32 _ l3, hn]
      unfold sizeN
      rw [← Bool.decide_or]
      congr 1
      by_cases hb : x < 2147483648
      · rw [if_pos (by omega), if_pos hb, if_pos hb, if_neg (by omega)]
        apply propext; constructor
        · intro h; left; omega
        · intro h; omega
      · rw [if_pos (by omega), if_neg hb, if_neg hb, if_pos (by omega)]
        apply propext; constructor
        · intro h; right; omega
        · intro h; omega
end Go.Proofs.Ytagcepankiinpaa

/- The law of gates. -/
set_option linter.unusedVariables false
set_option linter.unusedSimpArgs false
namespace Go.Proofs.Ytagcepankiinpaa
open Fl Go.RowKit
theorem Fs.head {w : World} {B n m : Nat} {A : Option Addr} {xs : List Nat} (h : Fs w B A n xs) (hm : m ≤ n) : Fs w B A m (xs.take m) :=
  ⟨by rw [List.length_take, h.1]; omega, fun x hx => h.2.1 x (List.mem_of_mem_take hx), fun h0 => by
    obtain ⟨g, off, e, hg, hc⟩ := h.2.2 (by omega)
    refine ⟨g, off, e, hg, fun k hk => ?_⟩
    rw [hc k (by omega)]
    unfold fv wd
    simp [List.getD_eq_getElem?_getD, List.getElem?_take, hk]⟩
theorem wd_take (xs : List Nat) (m k : Nat) (h : k < m) : wd (xs.take m) k = wd xs k := by unfold wd; simp [List.getD_eq_getElem?_getD, List.getElem?_take, h]
theorem Fs.tail0 {w : World} {B n m : Nat} {g : Nat} {xs : List Nat} (h : Fs w B (some ⟨g, 0, none⟩) n xs) (hm : m ≤ n) : Fs w B (some ⟨g, m, none⟩) (n - m) (xs.drop m) := by
  have h1 := Fs.tail (n := m) (m := n - m) (g := g) (off := 0) (w := w) (B := B) (xs := xs) (by rw [show m + (n - m) = n by omega]; exact h)
  rwa [Nat.zero_add] at h1
theorem Fs.cell0 {w : World} {B n g k : Nat} {xs : List Nat} (h : Fs w B (some ⟨g, 0, none⟩) n xs) (hk : k < n) : w.cell? ⟨g, k, none⟩ = some (.float .f32 (wd xs k)) ∧ g < B := by
  obtain ⟨g', off, e, hg, hc⟩ := h.2.2 (by omega)
  injection e with e
  injection e with e1 e2 _
  subst e1; subst e2
  have := hc k hk
  rw [Nat.zero_add] at this
  exact ⟨this, hg⟩
/-- an operation whose guard says yes, as one without a guard -/
theorem wpList_yes {ops : Array Oper} {rest : List Oper} {o : Oper} {a : Act} {Q : Exit → Act → World → Prop} {w : World} (hw : Region.wanted o (yielded ops a.tmps) = true)
    (h : wpList Try.prog ops Q ({ o with guard := none } :: rest) a w) : wpList Try.prog ops Q (o :: rest) a w := by
  unfold wpList at h ⊢
  rw [if_pos hw]
  rw [if_pos (by rfl)] at h
  exact h
end Go.Proofs.Ytagcepankiinpaa

/- Walks of laws whose results are lists. -/
set_option linter.unusedVariables false
set_option linter.unusedSimpArgs false
namespace Go.Proofs.Ytagcepankiinpaa
open Fl Go.RowKit
end Go.Proofs.Ytagcepankiinpaa

/- Lists of structs, whatever their cells: read, in a block of a law's own, written row by row. -/
set_option linter.unusedVariables false
set_option linter.unusedSimpArgs false
namespace Go.Proofs.Ytagcepankiinpaa
namespace Fl
section
variable {α : Type} {cells : α → List Value} {s : Nat}
/-- cell j of a list whose elements are e 0, e 1 .., of s cells each -/
def ceL (cells : α → List Value) (s : Nat) (e : Nat → α) (j : Nat) : Value := (cells (e (j / s))).getD (j % s) undef
theorem ceL_at (e : Nat → α) {k f : Nat} (hf : f < s) : ceL cells s e (k * s + f) = (cells (e k)).getD f undef := by
  unfold ceL
  have h1 : (k * s + f) / s = k := by rw [Nat.mul_comm, Nat.mul_add_div (by omega), Nat.div_eq_of_lt hf, Nat.add_zero]
  have h2 : (k * s + f) % s = f := by rw [Nat.mul_comm, Nat.mul_add_mod, Nat.mod_eq_of_lt hf]
  rw [h1, h2]
def upd (e : Nat → α) (k : Nat) (y : α) (i : Nat) : α := if i = k then y else e i
theorem ceL_upd (e : Nat → α) (k : Nat) (y : α) (hs : 0 < s) (j : Nat) : ceL cells s (upd e k y) j = if k * s ≤ j ∧ j < k * s + s then (cells y).getD (j - k * s) undef else ceL cells s e j := by
  unfold ceL upd
  have hd := Nat.div_add_mod j s
  have hm := Nat.mod_lt j hs
  by_cases h : j / s = k
  · rw [if_pos h]
    rw [h, Nat.mul_comm] at hd
    rw [if_pos ⟨by omega, by omega⟩]
    congr 1
    omega
  · rw [if_neg h, if_neg ?_]
    rintro ⟨h1, h2⟩
    exact h ((Nat.div_eq_iff hs).2 ⟨by omega, by omega⟩)
/-- a list of structs that can be read -/
def Rs (cells : α → List Value) (s : Nat) (w : World) (B : Nat) (A : Option Addr) (n : Nat) (e : Nat → α) : Prop :=
  0 < n → ∃ g off, A = some ⟨g, off, none⟩ ∧ g < B ∧ ∀ k, k < n * s → w.cell? ⟨g, off + k, none⟩ = some (ceL cells s e k)
theorem Rs.keep {w w' : World} {B n : Nat} {A : Option Addr} {e : Nat → α} (h : Rs cells s w B A n e) (hk : ∀ g o, g < B → w'.cell? ⟨g, o, none⟩ = w.cell? ⟨g, o, none⟩) : Rs cells s w' B A n e := fun hn => by
  obtain ⟨g, off, ea, hg, hc⟩ := h hn
  exact ⟨g, off, ea, hg, fun k hk' => (hk g _ hg).trans (hc k hk')⟩
theorem Rs.more {w : World} {B B' n : Nat} {A : Option Addr} {e : Nat → α} (h : Rs cells s w B A n e) (hB : B ≤ B') : Rs cells s w B' A n e := fun hn => by
  obtain ⟨g, off, ea, hg, hc⟩ := h hn
  exact ⟨g, off, ea, by omega, hc⟩
theorem Rs.since {w w' : World} {B n : Nat} {A : Option Addr} {e : Nat → α} (h : Rs cells s w B A n e) (hs : w.Since B w') : Rs cells s w' B A n e :=
  h.keep fun g o hg => hs.cell (a := ⟨g, o, none⟩) hg
theorem Rs.now {w w1 : World} {A : Option Addr} {n : Nat} {e : Nat → α} (h : Rs cells s w w.heap.size A n e) (k : w.Since w.heap.size w1) : Rs cells s w1 w1.heap.size A n e := (h.since k).more k.size
theorem row_lt {n k f : Nat} (hk : k < n) (hf : f < s) : k * s + f < n * s := by
  have := Nat.mul_le_mul_right s (show k + 1 ≤ n from hk)
  rw [Nat.succ_mul] at this
  omega
/-- field f of element k -/
theorem Rs.at_ {w : World} {B n : Nat} {A : Option Addr} {e : Nat → α} (h : Rs cells s w B A n e) {k : Nat} (hk : k < n) : ∃ g off, A = some ⟨g, off, none⟩ ∧ g < B ∧ ∀ f, f < s → w.cell? ⟨g, off + k * s + f, none⟩ = some ((cells (e k)).getD f undef) := by
  obtain ⟨g, off, ea, hg, hc⟩ := h (by omega)
  exact ⟨g, off, ea, hg, fun f hf => by rw [Nat.add_assoc, hc _ (row_lt hk hf), ceL_at e hf]⟩
theorem Rs.range {w : World} {B n : Nat} {A : Option Addr} {e : Nat → α} (h : Rs cells s w B A n e) {k : Nat} (hk : k < n) (hl : (cells (e k)).length = s) : ∃ g off, A = some ⟨g, off, none⟩ ∧ g < B ∧ w.rangeAt g (off + k * s) (cells (e k)) := by
  obtain ⟨g, off, ea, hg, hc⟩ := h.at_ hk
  refine ⟨g, off, ea, hg, fun j v hj => ?_⟩
  have hjl := (List.getElem?_eq_some_iff.1 hj).1
  rw [hc j (by omega)]
  simp [List.getD_eq_getElem?_getD, hj]
/-- such a list as an entry -/
def se (cells : α → List Value) (s : Nat) (T : TypeId) (A : Option Addr) (n : Nat) (e : Nat → α) : En := ce T A (n * s) (ceL cells s e) True
theorem Ge.readS {w : World} {lo n : Nat} {T : TypeId} {A : Option Addr} {e : Nat → α} (hs : 0 < s) (h : Ge lo w (se cells s T A n e)) : Rs cells s w w.heap.size A n e := fun hn => by
  obtain ⟨g, off, cs, ea, hg, hl, hb, hc⟩ := h.ce (Nat.mul_pos hn hs)
  refine ⟨g, off, ea, hl, fun k hk => ?_⟩
  simp only [World.cell?, hb]
  simpa using hc k hk
/-- cells of a block of one's own -/
def GF (w : World) (g : Nat) (T : TypeId) (m : Nat) (f : Nat → Value) : Prop := ∃ cs, w.heap[g]? = some (.cells cs T (0, 0)) ∧ ∀ j, j < m → cs[j]? = some (f j)
theorem GF.cell {w : World} {g m : Nat} {T : TypeId} {f : Nat → Value} (h : GF w g T m f) {j : Nat} (hj : j < m) : w.cell? ⟨g, j, none⟩ = some (f j) := by
  obtain ⟨cs, hb, hc⟩ := h
  simp only [World.cell?, hb]
  simpa using hc j hj
theorem GF.free {w : World} {g m : Nat} {T : TypeId} {f : Nat → Value} (h : GF w g T m f) (j : Nat) : w.frozen? ⟨g, j, none⟩ = false := by
  obtain ⟨cs, hb, hc⟩ := h
  simp [World.frozen?, hb]
theorem GF.set {w : World} {g m : Nat} {T : TypeId} {f : Nat → Value} (h : GF w g T m f) (k : Nat) (v : Value) : GF (w.setCell ⟨g, k, none⟩ v) g T m (fun j => if j = k then v else f j) := by
  obtain ⟨cs, hb, hc⟩ := h
  refine ⟨cs.setIfInBounds k v, by simp [World.setCell, Array.getElem?_modify, hb], fun j hj => ?_⟩
  have hsz : j < cs.size := (Array.getElem?_eq_some_iff.1 (hc j hj)).1
  rw [Array.getElem?_setIfInBounds]
  show _ = some (if j = k then v else f j)
  by_cases e : k = j
  · subst e; rw [if_pos rfl, if_pos rfl, if_pos hsz]
  · rw [if_neg e, if_neg (fun h => e h.symm)]; exact hc j hj
theorem GF.congr {w : World} {g m : Nat} {T : TypeId} {f f' : Nat → Value} (h : GF w g T m f) (e : ∀ j, j < m → f j = f' j) : GF w g T m f' := by
  obtain ⟨cs, hb, hc⟩ := h
  exact ⟨cs, hb, fun j hj => (hc j hj).trans (congrArg some (e j hj))⟩
theorem GF.of {w w' : World} {g m : Nat} {T : TypeId} {f : Nat → Value} (h : GF w g T m f) (e : w'.heap[g]? = w.heap[g]?) : GF w' g T m f := by
  obtain ⟨cs, hb, hc⟩ := h
  exact ⟨cs, e.trans hb, hc⟩
theorem GF.lt {w : World} {g m : Nat} {T : TypeId} {f : Nat → Value} (h : GF w g T m f) : g < w.heap.size := by
  obtain ⟨cs, hb, hc⟩ := h
  exact (Array.getElem?_eq_some_iff.1 hb).1
theorem GF.entry {w : World} {g n lo : Nat} {T : TypeId} {e : Nat → α} (h : GF w g T (n * s) (ceL cells s e)) (hl : lo ≤ g) : Ge lo w (se cells s T (some ⟨g, 0, none⟩) n e) := by
  obtain ⟨cs, hb, hc⟩ := h
  exact ce_ge trivial fun hn => ⟨g, 0, cs, rfl, hl, hb, fun k hk => by rw [Nat.zero_add]; exact hc k hk⟩
theorem GF.made (w : World) (T : TypeId) (zs : Array Value) (z : α) (n : Nat) (hz : (cells z).toArray = zs) (hs : zs.size = s) (hp : 0 < s) : GF (w.alloc (.cells (madeCells zs (n * s)) T)) w.heap.size T (n * s) (ceL cells s fun _ => z) := by
  refine ⟨_, Go.Deep.blk_alloc_new _ _, fun j hj => ?_⟩
  unfold madeCells ceL
  subst hz
  have hm : j % s < (cells z).length := by rw [← List.size_toArray, hs]; exact Nat.mod_lt _ hp
  simp [hj]
  simp only [List.size_toArray] at hs
  rw [hs]
  simp [List.getD_eq_getElem?_getD, List.getElem?_eq_getElem hm]
end
end Fl
end Go.Proofs.Ytagcepankiinpaa

/- Arrays of eight floats, of the program. -/
set_option linter.unusedVariables false
set_option linter.unusedSimpArgs false
namespace Go.Proofs.Ytagcepankiinpaa
open Fl Go.RowKit
/-- an array of eight words -/
def ag8 (f : Nat → Nat) : Array Value := #[.float .f32 (f 0), .float .f32 (f 1), .float .f32 (f 2), .float .f32 (f 3), .float .f32 (f 4), .float .f32 (f 5), .float .f32 (f 6), .float .f32 (f 7)]
def wv (f : Nat → Nat) (j : Nat) : Value := .float .f32 (f j)
theorem ag8_at (f : Nat → Nat) (j : Nat) (h : j < 8) : (ag8 f)[j]? = some (wv f j) := by
  obtain rfl | rfl | rfl | rfl | rfl | rfl | rfl | rfl : j = 0 ∨ j = 1 ∨ j = 2 ∨ j = 3 ∨ j = 4 ∨ j = 5 ∨ j = 6 ∨ j = 7 := by omega
  all_goals rfl
theorem Fl.GF.since {w w' : World} {g m : Nat} {T : TypeId} {f : Nat → Value} (h : GF w g T m f) (s : w.Since w.heap.size w') : GF w' g T m f := h.of (s.block _ h.lt)
def step8 (k : Nat) (r a : Nat → Nat) (j : Nat) : Value := .float .f32 (if j < k then r j else a j)
theorem ag8_len (f : Nat → Nat) : (ag8 f).toList.length = 8 := rfl
theorem ag8_eq (f g : Nat → Nat) (h : ∀ j, j < 8 → f j = g j) : ag8 f = ag8 g := by
  unfold ag8
  rw [h 0 (by decide), h 1 (by decide), h 2 (by decide), h 3 (by decide), h 4 (by decide), h 5 (by decide), h 6 (by decide), h 7 (by decide)]
end Go.Proofs.Ytagcepankiinpaa

/- Mixed and scaled samples: of the program. -/
set_option linter.unusedVariables false
set_option linter.unusedSimpArgs false
namespace Go.Proofs.Ytagcepankiinpaa
open Fl Go.RowKit
theorem eights_put {cs : Array Value} {n p m : Nat} {r s : Nat → Nat} (h : ∀ j, j < n → cs[j]? = some (partial_ p r j)) (hm : p + m ≤ n) (hm2 : m ≤ 8) (hm3 : m = 8 ∨ p + m = n) : ∀ j, j < n → (splice cs.toList p ((List.range m).map fun j => Value.float .f32 (s j))).toArray[j]? = some (partial_ (p + 8) (fun j => if p ≤ j then s (j - p) else r j) j) := by
  intro j hj
  have hsz : n ≤ cs.size := by
    rcases Nat.eq_zero_or_pos n with h0 | h0
    · omega
    · have := (Array.getElem?_eq_some_iff.1 (h (n - 1) (by omega))).1; omega
  unfold splice
  rw [List.getElem?_toArray]
  have hl : (cs.toList.take p).length = p := by rw [List.length_take, Array.length_toList]; omega
  by_cases h1 : j < p
  · rw [List.getElem?_append_left (by rw [hl]; exact h1), List.getElem?_take_of_lt h1, Array.getElem?_toList, h j hj]
    unfold partial_
    dsimp only
    rw [if_pos h1, if_pos (by omega), if_neg (by omega)]
  · by_cases h2 : j < p + m
    · rw [List.getElem?_append_right (by rw [hl]; omega), hl, List.getElem?_append_left (by simp; omega)]
      unfold partial_
      dsimp only
      rw [if_pos (by omega), if_pos (by omega)]
      simp [show j - p < m by omega]
    · rw [← List.append_assoc, List.getElem?_append_right (by simp [hl]; omega)]
      have hl2 : (cs.toList.take p ++ (List.range m).map fun j => Value.float .f32 (s j)).length = p + m := by simp [hl]
      rw [hl2]
      rcases hm3 with rfl | h3
      · rw [List.getElem?_drop]
        have e : p + ((List.range 8).map fun j => Value.float .f32 (s j)).length + (j - (p + 8)) = j := by simp; omega
        rw [e, Array.getElem?_toList, h j hj]
        unfold partial_
        rw [if_neg (by omega), if_neg (by omega)]
      · omega
end Go.Proofs.Ytagcepankiinpaa

/- Two rows of floats that grow side by side. -/
set_option linter.unusedVariables false
set_option linter.unusedSimpArgs false
namespace Go.Proofs.Ytagcepankiinpaa
open Fl Go.RowKit
/-- two rows lie in two blocks -/
def Apart (v u : Value) : Prop := ∀ b, v.ownBlock = some b → u.ownBlock = some b → False
theorem Apart.symm {v u : Value} (h : Apart v u) : Apart u v := fun b h1 h2 => h b h2 h1
/-- where a row lies that something was appended to -/
theorem append_where {P : Program} (w : World) (base : Nat) (t ty e : TypeId) (i : TypeInfo) (z : Value) (ht : P.underlying t = some (.slice e)) (hi : P.info? e = some i) (hz : i.zero = some z)
    (v : Value) (n : Nat) (xs : List Value) (hown : w.ownsRow base e i.size v n xs) (hsz : 0 < i.size)
    (a : Addr) (m c : Nat) (news : List Value) (hl : news.length = m * i.size) (hnews : ∀ j u, news[j]? = some u → w.cell? (a.add j) = some u) (h1 : ∀ u ∈ news, u.oneCell' = true) (hm : 0 < m)
    (h63 : n + m ≤ maxLen) (hbytes : (n + m) * i.bytes ≤ 140737488355328) :
    ∃ v' w', (Builtin.append_ #[t, t] ty #[v, .slice (some a) m c]).run P w = .ok v' w' ∧ (v'.ownBlock = v.ownBlock ∨ v'.ownBlock = some w.heap.size) := by
  have hsmall : n + m ≤ 9223372036854775807 := by simp only [maxLen] at h63; omega
  rcases hown.2 with ⟨rfl, rfl⟩ | ⟨g, cap, cur, rfl, hbg, hg, hnc, hcm, hcs, htake⟩
  · have hr := run_append_nil (P := P) w t ty e i z ht hi hz a m c news hl hnews (by omega) (by omega) (by have hb := hbytes; simp only [Nat.zero_add] at hb; omega)
    exact ⟨_, _, hr, .inr rfl⟩
  · by_cases hroom : n + m ≤ cap
    · have hfit : n * i.size + news.length ≤ cur.size := by rw [hl, hcs, ← Nat.add_mul]; exact Nat.mul_le_mul_right _ hroom
      have hr := run_append_room (P := P) w t ty e i ht hi g n cap cur hg a m c news hl hnews h1 hroom hfit
      exact ⟨_, _, hr, .inl rfl⟩
    · have holds : ∀ j u, xs[j]? = some u → w.cell? ((⟨g, 0, none⟩ : Addr).add j) = some u := hown.cells (g := g) rfl
      have hr := run_append_grow (P := P) w t ty e i z ht hi hz ⟨g, 0, none⟩ n cap xs hown.1 holds a m c news hl hnews (by omega) (by omega) (growslice_fits (by omega) hbytes)
      exact ⟨_, _, hr, .inr rfl⟩
theorem Rw.kept {lo : Nat} {w w' : World} {u v : Value} {k : Nat} {G : Nat → O} (h : Rw lo w u k G) (hg : w.grownBy w' v.ownBlock) (ha : Apart v u) : Rw lo w' u k G := by
  obtain ⟨os, h1, h2, h3⟩ := h
  refine ⟨os, h1.kept hg ?_, h2, h3⟩
  cases e : u.ownBlock with
  | none => exact .inl rfl
  | some b => exact .inr fun e2 => ha b e2.symm e
theorem Rw.blk {lo : Nat} {w : World} {u : Value} {k : Nat} {G : Nat → O} (h : Rw lo w u k G) : ∀ b, u.ownBlock = some b → b < w.heap.size := by
  obtain ⟨os, h1, h2, h3⟩ := h
  exact fun b hb => (h1.lt b hb).2
theorem wpList_app2 {ops : Array Oper} {rest : List Oper} {o : Oper} {a : Act} {Q : Exit → Act → World → Prop} {w : World} (hgd : o.guard = none) (s x : Operand)
    (ho : o.op = .call { callee := .builtin .append, args := #[s, x], argTypes := #[30, 30] }) (lo : Nat) (v : Value) (k : Nat) (F : Nat → O) (hs : a.eval s = v) (b r : Nat)
    (hx : a.eval x = .slice (some ⟨b, 0, none⟩) 1 1) (hc : w.cell? ⟨b, 0, none⟩ = some (.float .f32 r)) (hk : k < 1048576) (hlo : lo ≤ w.heap.size) (hr : Hid (Fv .f32 r (F k))) (hR : Rw lo w v k F)
    (h : ∀ v' w', Hid (Rw lo w' v' (k + 1) F) → Hid (w.Since lo w') → Hid (∀ u k' G, Rw lo w u k' G → Apart v u → Rw lo w' u k' G ∧ Apart v' u) → wpList Try.prog ops Q rest (a.put o.dst v') w') : wpList Try.prog ops Q (o :: rest) a w := by
  obtain ⟨os, h1, h2, h3⟩ := hR
  obtain ⟨i0, hi, hz0, hz1, hz2⟩ := info_parts Try.infoF
  have hnews : ∀ (j : Nat) (u : Value), [Value.float .f32 r][j]? = some u → w.cell? ((⟨b, 0, none⟩ : Addr).add j) = some u := by
    intro j u hj
    rcases j with _ | j
    · simp at hj; subst hj; simpa [Addr.add] using hc
    · simp at hj
  have hone : ∀ u ∈ [Value.float .f32 r], u.oneCell' = true := by intro u hu; simp at hu; subst hu; rfl
  have h63 : k + 1 ≤ maxLen := by unfold maxLen; omega
  have hby : (k + 1) * i0.bytes ≤ 140737488355328 := by rw [hz2]; omega
  refine wpList_plain hgd fun K hK => ?_
  obtain ⟨v', w', hrun, hown, hgr, _⟩ := run_append_own (P := Try.prog) w lo 30 o.type 24 i0 (.float .f32 0) i0.size i0.bytes Try.underlying30 hi hz0 rfl rfl (by rw [hz1]; rfl) (by rw [hz1]; omega) v k (fvl os) (by rw [hz1]; exact h1) ⟨b, 0, none⟩ 1 1 [.float .f32 r] (by rw [hz1]; rfl) hnews hone h63 hby hlo
  obtain ⟨v2, w2, hrun2, hwh⟩ := append_where (P := Try.prog) w lo 30 o.type 24 i0 (.float .f32 0) Try.underlying30 hi hz0 v k (fvl os) (by rw [hz1]; exact h1) (by rw [hz1]; omega) ⟨b, 0, none⟩ 1 1 [.float .f32 r] (by rw [hz1]; rfl) hnews hone (by omega) h63 hby
  rw [hrun] at hrun2
  injection hrun2 with e1 e2
  subst e1
  rw [hz1] at hown
  unfold Oper.wp execOp
  simp only [ho, resolve, invoke, builtin, Sem.run_bind, Sem.run_pure, Result.andThen_ok, List.map_toArray, List.map_cons, List.map_nil, hs, hx, hrun]
  refine hK _ _ (h v' w' (Lib.hid ⟨os ++ [r], ?_, h2.snoc hr.out.1, fun j hj => ?_⟩) (Lib.hid ⟨hgr.os, hgr.tape, hgr.output, hgr.size, fun i hi => ?_⟩) (Lib.hid fun u k' G hu hap => ⟨hu.kept hgr hap, fun b h4 h5 => ?_⟩))
  · rw [← fvl_snoc]; exact hown
  · have hyl : os.length = k := by simpa [fvl] using h1.1
    rw [wd_snoc hyl]
    by_cases e : j < k
    · rw [if_pos e]; exact h3 j e
    · obtain rfl : j = k := by omega
      rw [if_neg e, if_pos rfl]; exact hr.out.2
  · refine hgr.block i (by omega) fun e => ?_
    have := own_lo h1 i e.symm
    omega
  · rcases hwh with e | e
    · exact hap b (e ▸ h4) h5
    · have := hu.blk b h5
      rw [e] at h4
      injection h4 with h4
      omega
theorem De.of_apart {p q : Ls} {c d : Nat} (h : Apart (.slice p.A p.n c) (.slice q.A q.n d)) : De (fe p.A p.n p.xs) (fe q.A q.n q.xs) := by
  rintro g ⟨_, o1, e1⟩ ⟨_, o2, e2⟩
  exact h g (by rw [e1]; rfl) (by rw [e2]; rfl)
end Go.Proofs.Ytagcepankiinpaa

/- Mixed and scaled samples, two channels: of the model. -/
set_option linter.unusedVariables false
set_option linter.unusedSimpArgs false
namespace Go.Proofs.Ytagcepankiinpaa
open Fl Go.RowKit
theorem fv2 : Hid (Fv .f32 1073741824 (some 1073741824)) := fvc (by decide) (by decide)
def sumF (X Y : Nat → O) (k : Nat) : O := ad (X k) (Y k)
def difF (X Y : Nat → O) (k : Nat) : O := su (X k) (Y k)
def midF (X Y : Nat → O) (k : Nat) : O := qu (ad (X k) (Y k)) (some 1073741824)
def sidF (X Y : Nat → O) (k : Nat) : O := qu (su (X k) (Y k)) (some 1073741824)
end Go.Proofs.Ytagcepankiinpaa

/- Two channels: of the program. -/
set_option linter.unusedVariables false
set_option linter.unusedSimpArgs false
namespace Go.Proofs.Ytagcepankiinpaa
open Fl Go.RowKit
set_option maxHeartbeats 2000000 in
set_option maxRecDepth 100000 in
theorem results_since (A : Option Addr) (n c : Nat) (xs : List Nat) (F : FuncId) (caps : Array Value) (Y : Nat → Option Nat) (w : World) (h : Fs w w.heap.size A n xs) (hn : n ≤ 256)
    (hent : ∀ args w, (callFunc F args).run Try.prog w = .ok (.enter F args) w)
    (hstep : ∀ k q W, k < n → q = wd xs k → w.Since w.heap.size W → Calls Try.prog F (#[.float .f32 q] ++ caps) W fun e W' => ∃ r, e = .returned (.float .f32 r) ∧ Hid (Fv .f32 r (Y k)) ∧ W.Since W.heap.size W') :
    Calls Try.prog 20 #[.slice A n c, .func (.func F) #[] caps] w fun e w' => ∃ ys, e = .returned (.slice (some ⟨w.heap.size, 0, none⟩) n n) ∧ Gs 24 w' w.heap.size (some ⟨w.heap.size, 0, none⟩) n ys ∧ Are' n ys Y ∧ w.Since w.heap.size w' := by
  have H := Lib.hid h
  have hmk := fun W => run_make_row' (P := Try.prog) 30 24 (.float .f32 0) 4 Try.underlying30 Try.infoF rfl .i64 .i64 n (by omega) (by omega) W
  have HST := Lib.hid hstep
  clear h hstep
  go_enter Try.func20, Try.ntmps20
  go_wp2
  go_loopw [13] (fun i wr => ∃ (k : Nat) (r : Nat → Nat), k ≤ n ∧ i = .int .i64 k ∧ GCells wr w.heap.size n (partial_ k r) ∧ (∀ j, j < k → Hid (Fv .f32 (r j) (Y j))) ∧ w.Since w.heap.size wr) (fun i _ => n - (intOf i).toNat)
  case atStart =>
    have hr := (World.rowIs_made w (.float .f32 0) n 24)
    obtain ⟨cs, hb, _, hc⟩ := hr
    exact ⟨0, fun _ => 0, Nat.zero_le _, rfl, ⟨cs, hb, fun j hj => hc j hj⟩, fun j hj => by omega, (World.Since.refl _ _).alloc (Nat.le_refl _) _⟩
  case round =>
    obtain ⟨k, r, hk, rfl, hcs, hr, hon⟩ := hrel
    have HC := Lib.hid hcs; have HR := Lib.hid hr; have HON := Lib.hid hon
    have hsz : w.heap.size < wr.heap.size := hcs.lt
    clear hcs hr hon
    by_cases hlt : k < n
    · obtain ⟨g, off, rfl, hg, hc⟩ := H.out.2.2 (by omega)
      have hcell : wr.cell? ⟨g, off + k, none⟩ = some (.float .f32 (wd xs k)) := (HON.out.cell (a := ⟨g, off + k, none⟩) hg).trans (hc k hlt)
      clear hc
      go_wp2_with fail
      refine (HST.out k _ wr hlt rfl HON.out).mono ?_
      rintro e w2 ⟨r1, rfl, hr1, ho1⟩
      have HC2 := Lib.hid (show GCells w2 w.heap.size n (partial_ k r) by
        obtain ⟨cs, hb, hc⟩ := HC.out
        exact ⟨cs, (ho1.block _ hsz).trans hb, hc⟩)
      have hc2 : w2.cell? ⟨w.heap.size, k, none⟩ = some (partial_ k r k) := HC2.out.cell hlt
      have hf2 : w2.frozen? ⟨w.heap.size, k, none⟩ = false := HC2.out.free _
      have HR1 := Lib.hid hr1; have HO1 := Lib.hid ho1
      clear hr1 ho1
      go_wp2
      go_roundw
      case rel =>
        refine ⟨k + 1, fun j => if j = k then r1 else r j, by omega, by go_num, (HC2.out.set k _).congr (fun j hj => ?_), fun j hj => ?_, (since_step HON.out HO1.out).setCell (Nat.le_refl _) _⟩
        · unfold partial_
          dsimp only
          by_cases e : j = k
          · rw [if_pos e, if_pos (by omega), if_pos e]
          · rw [if_neg e, if_neg e]
            by_cases e2 : j < k
            · rw [if_pos e2, if_pos (by omega)]
            · rw [if_neg e2, if_neg (by omega)]
        · show Hid (Fv .f32 (if j = k then r1 else r j) (Y j))
          by_cases e : j = k
          · subst e; rw [if_pos rfl]; exact HR1
          · rw [if_neg e]; exact HR.out j (by omega)
      case measure => simp [intOf]; omega
    · obtain rfl : k = n := by omega
      go_wp2
      go_ret
      refine ⟨lst k r, rfl, ⟨lst_len _ _, fun y hy => ?_, fun _ => ?_⟩, fun i hi => by rw [lst_wd hi]; exact (HR.out i hi).out.2, HON.out⟩
      · obtain ⟨i, hi, rfl⟩ := List.mem_map.1 hy
        exact (HR.out i (List.mem_range.1 hi)).out.1
      · obtain ⟨cs, hb, hc⟩ := HC.out
        refine ⟨_, cs, rfl, Nat.le_refl _, hb, fun j hj => ?_⟩
        rw [hc j hj]; unfold partial_ fv; rw [if_pos hj, lst_wd hj]
end Go.Proofs.Ytagcepankiinpaa

/- The laws of MixSamples, ScaleSamples, LeftAndRight, MiddleAndSide. -/
set_option linter.unusedVariables false
set_option linter.unusedSimpArgs false
namespace Go.Proofs.Ytagcepankiinpaa
open Fl Go.RowKit
end Go.Proofs.Ytagcepankiinpaa

/- The laws on bits, walked: each returns true, whatever it is called with. -/
set_option linter.unusedVariables false
set_option linter.unusedSimpArgs false
namespace Go.Proofs.Ytagcepankiinpaa
open Fl

end Go.Proofs.Ytagcepankiinpaa

/- The law of flushed numbers. -/
set_option linter.unusedVariables false
set_option linter.unusedSimpArgs false
namespace Go.Proofs.Ytagcepankiinpaa
open Fl Go.RowKit
/-! words that are flushed -/
theorem subB_flushN (b : Nat) : subB (flushN b) = false := by
  unfold subB flushN
  split
  · have h : zeroB (b / 2147483648 * 2147483648) = true := by unfold zeroB; simp
    rw [h]; rfl
  · next h => rw [decide_eq_false h]; simp
theorem same_flush (b : Nat) (hb : b < 4294967296) : decide (bitsO (ab .f32 b) = bitsO (ab .f32 (flushN b))) = !subB b := by
  unfold subB zeroB flushN
  by_cases h : b % 2147483648 < 8388608
  · rw [if_pos h, decide_eq_true h]
    have e1 : ab .f32 b = some b := by rw [ab32, if_neg (by omega)]
    have e2 : ab .f32 (b / 2147483648 * 2147483648) = some (b / 2147483648 * 2147483648) := by rw [ab32, if_neg (by omega)]
    rw [e1, e2]
    show decide (b = b / 2147483648 * 2147483648) = _
    by_cases h0 : b % 2147483648 = 0
    · rw [decide_eq_true h0, decide_eq_true (by omega)]; rfl
    · rw [decide_eq_false h0, decide_eq_false (by omega)]; rfl
  · rw [if_neg h, decide_eq_false h, decide_eq_true rfl]; simp
theorem bits_lt (b : Nat) (hb : b < 4294967296) : bitsO (ab .f32 b) < 4294967296 := by
  rw [ab32]
  split
  · show 2143289344 < _; decide
  · exact hb
theorem bits_sign (b : Nat) (hb : b < 4294967296) (h : ab .f32 b = some b) : bitsO (ab .f32 b) / 2147483648 = bitsO (ab .f32 (flushN b)) / 2147483648 := by
  have h2 : ab .f32 (flushN b) = some (flushN b) := by
    rw [ab32] at h ⊢
    unfold flushN
    split at h
    · cases h
    · split
      · rw [if_neg (by omega)]
      · first | rfl | rw [if_neg (by omega)]
  rw [h, h2]
  show b / 2147483648 = flushN b / 2147483648
  unfold flushN
  split <;> omega
theorem sub_small {s : Nat} (h1 : 0 < s) (h2 : s < 8388608) : subB s = true ∧ flushN s = 0 := by
  unfold subB zeroB flushN
  rw [decide_eq_false (show ¬ s % 2147483648 = 0 by omega), decide_eq_true (show s % 2147483648 < 8388608 by omega), if_pos (by omega)]
  exact ⟨rfl, by omega⟩
theorem small_num {s : Nat} (h2 : s < 8388608) : ab .f32 s = some s := by rw [ab32, if_neg (by omega)]
theorem small_ord {s : Nat} (h1 : 0 < s) (h2 : s < 8388608) : ¬ FloatKind.f32.format.order s 0 = some .eq := by
  rw [order_key .f32 (small_num h2) ab32_zero, key32 s (by omega), key32 0 (by decide), if_pos (show s < 2147483648 by omega), if_pos (show 0 < 2147483648 by decide), cmp_def]
  split
  · omega
  · split
    · omega
    · intro h; cases h
/-! the peak -/
theorem pos_num {p : Nat} (h : p ≤ 2139095040) : ab .f32 p = some p := by rw [ab32, if_neg (by omega)]
theorem pos_gt {a b : Nat} (ha : a ≤ 2139095040) (hb : b ≤ 2139095040) : (FloatKind.f32.format.order a b == some .gt) = decide (b < a) := by
  rw [order_key .f32 (pos_num ha) (pos_num hb), key32 a (by omega), key32 b (by omega), if_pos (by omega), if_pos (by omega), cmp_def]
  by_cases h : a < b
  · rw [if_pos (by omega), decide_eq_false (by omega)]; rfl
  · rw [if_neg (by omega)]
    by_cases h2 : a = b
    · rw [if_pos (by omega), decide_eq_false (by omega)]; rfl
    · rw [if_neg (by omega), decide_eq_true (by omega)]; rfl
theorem nan_gt {a b : Nat} (ha : ¬ a % 2147483648 ≤ 2139095040) : (FloatKind.f32.format.order a b == some .gt) = false := by
  rw [ord_none (by rw [ab32, if_pos (by omega)])]; rfl
theorem peak_spec (xs : List Nat) (hs : Small xs) : ∀ k, peakN xs k ≤ 2139095040 ∧ (∀ j, j < k → sizeN (wd xs j) ≤ 2139095040 → sizeN (wd xs j) ≤ peakN xs k) ∧ (peakN xs k = 0 ∨ ∃ j, j < k ∧ sizeN (wd xs j) = peakN xs k)
  | 0 => ⟨by unfold peakN; decide, (fun j hj => absurd hj (Nat.not_lt_zero _)), .inl rfl⟩
  | k + 1 => by
    obtain ⟨h1, h2, h3⟩ := peak_spec xs hs k
    have e : peakN xs (k + 1) = if FloatKind.f32.format.order (sizeN (wd xs k)) (peakN xs k) == some .gt then sizeN (wd xs k) else peakN xs k := rfl
    have hlt := sizeN_lt (wd xs k)
    by_cases hn : sizeN (wd xs k) ≤ 2139095040
    · rw [pos_gt hn h1] at e
      by_cases hg : peakN xs k < sizeN (wd xs k)
      · rw [decide_eq_true hg, if_pos rfl] at e
        rw [e]
        refine ⟨hn, fun j hj hj2 => ?_, .inr ⟨k, by omega, rfl⟩⟩
        by_cases e2 : j < k
        · have := h2 j e2 hj2; omega
        · obtain rfl : j = k := by omega
          exact Nat.le_refl _
      · rw [decide_eq_false hg, if_neg (by decide)] at e
        rw [e]
        refine ⟨h1, fun j hj hj2 => ?_, ?_⟩
        · by_cases e2 : j < k
          · exact h2 j e2 hj2
          · obtain rfl : j = k := by omega
            omega
        · rcases h3 with h3 | ⟨j, hj, h4⟩
          · exact .inl h3
          · exact .inr ⟨j, by omega, h4⟩
    · have hm : ¬ sizeN (wd xs k) % 2147483648 ≤ 2139095040 := by unfold sizeN at hn ⊢; omega
      rw [nan_gt hm, if_neg (by decide)] at e
      rw [e]
      refine ⟨h1, fun j hj hj2 => ?_, ?_⟩
      · by_cases e2 : j < k
        · exact h2 j e2 hj2
        · obtain rfl : j = k := by omega
          exact absurd hj2 hn
      · rcases h3 with h3 | ⟨j, hj, h4⟩
        · exact .inl h3
        · exact .inr ⟨j, by omega, h4⟩
theorem gt_word {x p : Nat} (hx : x < 4294967296) (hp : p ≤ 2139095040) (h : sizeN x ≤ 2139095040 → sizeN x ≤ p) : (FloatKind.f32.format.order x p == some .gt) = false := by
  unfold sizeN at h
  by_cases hn : x % 2147483648 ≤ 2139095040
  · have e : ab .f32 x = some x := by rw [ab32, if_neg (by omega)]
    have := h hn
    rw [order_key .f32 e (pos_num hp), key32 x hx, key32 p (by omega), if_pos (show p < 2147483648 by omega)]
    by_cases hb : x < 2147483648
    · rw [if_pos hb, cmp_def]
      split
      · rfl
      · split
        · rfl
        · exfalso; omega
    · rw [if_neg hb, cmp_def]
      split
      · rfl
      · split
        · rfl
        · exfalso; omega
  · exact nan_gt hn
theorem neg_size (x : Nat) (hx : x < 4294967296) : sizeN (Op.negFloat .f32 x) = sizeN x := by
  unfold sizeN
  rw [neg32 x hx]
  split <;> omega
theorem eq_word {x p : Nat} (hx : x < 4294967296) (hp : p ≤ 2139095040) (h : sizeN x = p) : (FloatKind.f32.format.order x p == some .eq || FloatKind.f32.format.order (Op.negFloat .f32 x) p == some .eq) = true := by
  unfold sizeN at h
  have hn := neg32 x hx
  by_cases hb : x < 2147483648
  · obtain rfl : x = p := by omega
    rw [order_self, pos_num hp]; rfl
  · rw [if_neg hb] at hn
    rw [hn, show x - 2147483648 = p by omega, order_self, pos_num hp]; simp
/-- whether the peak is found -/
def foundB (xs : List Nat) (p : Nat) : Nat → Bool
  | 0 => FloatKind.f32.format.order p 0 == some .eq
  | k + 1 => foundB xs p k || FloatKind.f32.format.order (wd xs k) p == some .eq || FloatKind.f32.format.order (Op.negFloat .f32 (wd xs k)) p == some .eq
theorem found_up (xs : List Nat) (p : Nat) (j : Nat) (h : foundB xs p (j + 1) = true) : ∀ k, j < k → foundB xs p k = true
  | 0, hk => absurd hk (Nat.not_lt_zero _)
  | k + 1, hk => by
    by_cases e : j = k
    · subst e; exact h
    · show (foundB xs p k || _ || _) = true
      rw [found_up xs p j h k (by omega)]; rfl
theorem found0 (xs : List Nat) (p : Nat) (h : foundB xs p 0 = true) : ∀ k, foundB xs p k = true
  | 0 => h
  | k + 1 => by
    show (foundB xs p k || _ || _) = true
    rw [found0 xs p h k]; rfl
theorem found_all (xs : List Nat) (hs : Small xs) (n : Nat) : foundB xs (peakN xs n) n = true := by
  obtain ⟨h1, _, h3⟩ := peak_spec xs hs n
  rcases h3 with h3 | ⟨j, hj, h4⟩
  · rw [h3]
    refine found0 xs 0 ?_ n
    show (FloatKind.f32.format.order 0 0 == some .eq) = true
    rw [order_self, ab32_zero]; rfl
  · refine found_up xs _ j ?_ n hj
    have := eq_word (hs.at_ j) h1 h4
    show (foundB xs _ j || _ || _) = true
    rw [Bool.or_assoc, this, Bool.or_true]
theorem ge_zero {p : Nat} (hp : p ≤ 2139095040) : (FloatKind.f32.format.order p 0 == some .gt || FloatKind.f32.format.order p 0 == some .eq) = true := by
  rw [order_key .f32 (pos_num hp) ab32_zero, key32 p (by omega), key32 0 (by decide), if_pos (by omega), if_pos (by decide), cmp_def, if_neg (by omega)]
  split <;> rfl
end Go.Proofs.Ytagcepankiinpaa

/- Floats that stand for whole multiples of 2^-q. -/
set_option linter.unusedVariables false
set_option linter.unusedSimpArgs false
namespace Go.Proofs.Ytagcepankiinpaa
namespace Fl
open Ieee
def pl : FloatKind → Nat
  | .f32 => 149
  | .f64 => 1074
theorem pl_eq (k : FloatKind) : (pl k : Int) = -k.format.leastPlace := by cases k <;> decide
/-- 2^-q in units of the least place -/
def un (k : FloatKind) (q : Nat) : Nat := 2 ^ (pl k - q)
theorem un_pos (k : FloatKind) (q : Nat) : 0 < un k q := Nat.two_pow_pos _
theorem un_up (k : FloatKind) {q j : Nat} (h : q + j ≤ pl k) : un k q = 2 ^ j * un k (q + j) := by
  unfold un
  rw [← Nat.pow_add]
  congr 1; omega
theorem un_mul (k : FloatKind) {q p : Nat} (h : q + p ≤ pl k) : un k q * un k p = un k (q + p) * 2 ^ pl k := by
  unfold un
  rw [← Nat.pow_add, ← Nat.pow_add]
  congr 1; omega
/-- the greatest whole number of digits that the format has, and one more -/
def bd (k : FloatKind) : Nat := 2 ^ (k.format.fractionBits + 1)
theorem bd32 : bd .f32 = 16777216 := by decide
theorem bd64 : bd .f64 = 9007199254740992 := by decide
theorem rep_un (k : FloatKind) {m : Nat} (q : Nat) (hm : m < bd k) : ∃ r, r < k.format.infRung ∧ zv k r = m * un k q := by
  refine rep k hm ?_
  have h1 : (pl k - q + 2) * k.format.binade ≤ (pl k + 2) * k.format.binade := Nat.mul_le_mul_right _ (by omega)
  refine Nat.le_trans h1 ?_
  cases k <;> decide
/-- X stands for z times 2^-q -/
def EO (k : FloatKind) (q : Nat) (z : Int) (X : Option Nat) : Prop := ∃ b, X = some b ∧ Fin k b ∧ sv k b = z * (un k q : Int)
theorem fin_ab {k : FloatKind} {b : Nat} (h : Fin k b) : ab k b = some b := by
  unfold ab
  unfold Fin rung at h
  rw [if_neg (by omega)]
section
variable {k : FloatKind} {q p : Nat} {a b : Int} {X Y : Option Nat}
theorem EO.add (hx : EO k q a X) (hy : EO k q b Y) (hb : (a + b).natAbs < bd k) : EO k q (a + b) (opO .add k X Y) := by
  obtain ⟨x, rfl, fx, vx⟩ := hx
  obtain ⟨y, rfl, fy, vy⟩ := hy
  obtain ⟨r, hr, hz⟩ := rep_un k q hb
  obtain ⟨z, h1, h2, h3⟩ := add_exact k fx fy hr (by rw [vx, vy, ← Int.add_mul, Int.natAbs_mul, Int.natAbs_natCast, hz])
  exact ⟨z, h1, h2, by rw [h3, vx, vy, Int.add_mul]⟩
theorem EO.sub (hx : EO k q a X) (hy : EO k q b Y) (hb : (a - b).natAbs < bd k) : EO k q (a - b) (opO .sub k X Y) := by
  obtain ⟨x, rfl, fx, vx⟩ := hx
  obtain ⟨y, rfl, fy, vy⟩ := hy
  obtain ⟨r, hr, hz⟩ := rep_un k q hb
  obtain ⟨z, h1, h2, h3⟩ := sub_exact k fx fy hr (by rw [vx, vy, ← Int.sub_mul, Int.natAbs_mul, Int.natAbs_natCast, hz])
  exact ⟨z, h1, h2, by rw [h3, vx, vy, Int.sub_mul]⟩
theorem EO.mul (hx : EO k q a X) (hy : EO k p b Y) (hb : (a * b).natAbs < bd k) (hq : q + p ≤ pl k) : EO k (q + p) (a * b) (opO .mul k X Y) := by
  obtain ⟨x, rfl, fx, vx⟩ := hx
  obtain ⟨y, rfl, fy, vy⟩ := hy
  obtain ⟨r, hr, hz⟩ := rep_un k (q + p) hb
  have hu := un_mul k hq
  have e1 : sv k x * sv k y = a * b * ((un k (q + p) : Nat) : Int) * ((2 ^ pl k : Nat) : Int) := by
    rw [vx, vy]
    have : a * (un k q : Int) * (b * (un k p : Int)) = a * b * ((un k q * un k p : Nat) : Int) := by rw [Int.natCast_mul]; ac_rfl
    rw [this, hu, Int.natCast_mul]; ac_rfl
  obtain ⟨z, h1, h2, h3⟩ := mul_exact k fx fy hr (pl k) (pl_eq k) (by rw [e1, Int.natAbs_mul, Int.natAbs_mul, Int.natAbs_natCast, Int.natAbs_natCast, hz])
  refine ⟨z, h1, h2, ?_⟩
  rw [e1] at h3
  exact Int.eq_of_mul_eq_mul_right (by have := Nat.two_pow_pos (pl k); omega) h3
theorem EO.up (hx : EO k q a X) (j : Nat) (h : q + j ≤ pl k) : EO k (q + j) (a * ((2 ^ j : Nat) : Int)) X := by
  obtain ⟨x, rfl, fx, vx⟩ := hx
  refine ⟨x, rfl, fx, ?_⟩
  rw [vx, un_up k h, Int.natCast_mul, Int.mul_assoc]
theorem EO.cast (hx : EO k q a X) (h : a = b) : EO k q b X := by subst h; exact hx
theorem cmp_sv {x y : Nat} : compare (key k x) (key k y) = compare (sv k x) (sv k y) := by
  unfold key sv
  have z1 := zv_inj k (r := rung k x) (s := 0)
  have z2 := zv_inj k (r := rung k y) (s := 0)
  rw [zv_zero] at z1 z2
  exact cmp_sg _ _ (zv_lt k).symm (zv_lt k).symm z1.symm z2.symm
theorem EO.ord (hx : EO k q a X) (hy : EO k q b Y) : ordO k X Y = some (compare a b) := by
  obtain ⟨x, rfl, fx, vx⟩ := hx
  obtain ⟨y, rfl, fy, vy⟩ := hy
  show k.format.order x y = _
  rw [order_key k (fin_ab fx) (fin_ab fy), cmp_sv, vx, vy, cmp_scale _ _ _ (un_pos k q)]
/-- a whole number as a float -/
theorem EO.int (n : Int) (h : n.natAbs < bd k) : EO k 0 n (some (floatOfInt k n)) := by
  obtain ⟨r, hr, hz⟩ := rep_un k 0 h
  have hN : rung k (k.format.nearest (decide (n < 0)) n.natAbs 0) = r := nearest_exact k _ (b := k.format.leastPlace) hr (lp_neg k) (Int.le_refl _) (by
    rw [hz]
    have e1 : (0 - k.format.leastPlace).toNat = pl k - 0 := by have := pl_eq k; omega
    have e2 : (k.format.leastPlace - k.format.leastPlace).toNat = 0 := by omega
    rw [e1, e2, Nat.pow_zero, Nat.mul_one]; rfl)
  refine ⟨_, rfl, ?_, ?_⟩
  · show rung k (k.format.nearest _ _ _) < _
    rw [hN]; exact hr
  · show sv k (k.format.nearest _ _ _) = _
    rw [sv_nearest k _ hN, hz]
    by_cases h1 : n < 0
    · rw [decide_eq_true h1]
      simp only [sg, if_true]
      rw [Int.natCast_mul, ← Int.neg_mul]
      congr 1; omega
    · rw [decide_eq_false h1]
      simp only [sg, Bool.false_eq_true, if_false]
      rw [Int.natCast_mul]
      congr 1; omega
end
/-- by reckoning -/
def exB (k : FloatKind) (q : Nat) (z : Int) : Option Nat → Bool
  | some b => decide (rung k b < k.format.infRung) && decide (sv k b = z * (un k q : Int))
  | none => false
theorem exB_EO {k : FloatKind} {q : Nat} {z : Int} {X : Option Nat} (h : exB k q z X = true) : EO k q z X := by
  cases X with
  | none => cases h
  | some b =>
    simp only [exB, Bool.and_eq_true, decide_eq_true_eq] at h
    exact ⟨b, rfl, h.1, h.2⟩
theorem inf_wide (D : Nat) (hD : D = 925) : zv .f32 FloatKind.f32.format.infRung * 2 ^ D < zv .f64 FloatKind.f64.format.infRung := by subst hD; decide +kernel
theorem EO.wide' {q : Nat} {z : Int} {X : Option Nat} (h : EO .f32 q z X) (hq : q ≤ 149) (D : Nat) (hD : D = 925) : EO .f64 q z (wide X) := by
  obtain ⟨x, rfl, fx, vx⟩ := h
  obtain ⟨h1, h2⟩ := wide_zv fx D hD
  have hu : un .f64 q = un .f32 q * 2 ^ D := by
    unfold un
    rw [← Nat.pow_add]
    congr 1
    show 1074 - q = 149 - q + D
    omega
  have hw : Fl.wide (some x) = some (FloatKind.f64.encode (FloatKind.f32.decode x)) := rfl
  refine ⟨_, hw, ?_, ?_⟩
  · rcases Nat.lt_or_ge (rung .f64 (FloatKind.f64.encode (FloatKind.f32.decode x))) FloatKind.f64.format.infRung with h3 | h3
    · exact h3
    · exfalso
      have h4 : zv .f64 FloatKind.f64.format.infRung ≤ zv .f64 (rung .f64 (FloatKind.f64.encode (FloatKind.f32.decode x))) := (zv_le .f64).2 h3
      rw [h2] at h4
      have h5 : zv .f32 (rung .f32 x) < zv .f32 FloatKind.f32.format.infRung := (zv_lt .f32).2 fx
      have h6 := inf_wide D hD
      have h7 := Nat.mul_lt_mul_of_pos_right h5 (Nat.two_pow_pos D)
      exact Nat.lt_irrefl _ (Nat.lt_of_le_of_lt h4 (Nat.lt_trans h7 h6))
  · have hs : sv .f64 (FloatKind.f64.encode (FloatKind.f32.decode x)) = sv .f32 x * ((2 ^ D : Nat) : Int) := by
      unfold sv
      rw [h1, h2, sg_mul]
    rw [hs, vx, hu, Int.natCast_mul, Int.mul_assoc]
theorem EO.wide {q : Nat} {z : Int} {X : Option Nat} (h : EO .f32 q z X) (hq : q ≤ 149) : EO .f64 q z (wide X) := h.wide' hq 925 rfl
end Fl
open Fl
theorem EO.eq_ {q : Nat} {a b : Int} {X Y : O} (hx : EO .f32 q a X) (hy : EO .f32 q b Y) : eqO X Y = decide (a = b) := by
  unfold eqO
  rw [hx.ord hy, cmp_def]
  by_cases h : a < b
  · rw [if_pos h, decide_eq_false (by omega)]; rfl
  · rw [if_neg h]
    by_cases h2 : a = b
    · rw [if_pos h2, decide_eq_true h2]; rfl
    · rw [if_neg h2, decide_eq_false h2]; rfl
end Go.Proofs.Ytagcepankiinpaa

/- A level against the peak: the law's comparison. -/
set_option linter.unusedVariables false
set_option linter.unusedSimpArgs false
namespace Go.Proofs.Ytagcepankiinpaa
open Fl Go.RowKit Ieee
def cMore : Nat := 4607182869159980145
def w64 (b : Nat) : Nat := FloatKind.f64.encode (FloatKind.f32.decode b)
set_option maxRecDepth 100000 in
theorem peak_tab : ∀ i : Nat, i < 258 → (match floatBits .mul .f64 cMore (w64 (plW i % 2147483648)) with
    | some z => decide (sgn .f64 z = false) && decide (rung .f64 z < FloatKind.f64.format.infRung) && (decide (plW i % 2147483648 = 0) || decide (rung .f64 (w64 (plW i % 2147483648 + 1)) ≤ rung .f64 z))
    | none => false) = true := by decide +kernel
theorem conv_k (b : Nat) (hab : ab .f32 b = some b) (W : World) : (convert 24 39 (.float .f32 b)).run Try.prog W = .ok (.float .f64 (w64 b)) W := by
  have h := run_wide (P := Try.prog) 24 39 b (by kernel_rfl) (by kernel_rfl) W
  unfold Fl.wv Fl.wn at h
  rw [hab] at h
  exact h
theorem wide_finD {b : Nat} (h : Fl.Fin .f32 b) (D : Nat) (hD : D = 925) : Fl.Fin .f64 (w64 b) ∧ sgn .f64 (w64 b) = sgn .f32 b ∧ zv .f64 (rung .f64 (w64 b)) = zv .f32 (rung .f32 b) * 2 ^ D := by
  obtain ⟨h1, h2⟩ := wide_zv h D hD
  refine ⟨?_, h1, h2⟩
  have h3 : zv .f64 (rung .f64 (w64 b)) < zv .f64 FloatKind.f64.format.infRung := by
    show zv .f64 (rung .f64 (FloatKind.f64.encode (FloatKind.f32.decode b))) < _
    rw [h2]
    have h4 := (zv_lt .f32).2 h
    have h5 := inf_wide D hD
    exact Nat.lt_trans (Nat.mul_lt_mul_of_pos_right h4 (Nat.two_pow_pos _)) h5
  exact (zv_lt .f64).1 h3
theorem not_gt64 {x z : Nat} (fx : Fl.Fin .f64 x) (fz : Fl.Fin .f64 z) (sx : sgn .f64 x = false) (sz : sgn .f64 z = false) (h : rung .f64 x ≤ rung .f64 z) : (FloatKind.f64.format.order x z == some .gt) = false := by
  rw [order_key .f64 (fin_abK fx) (fin_abK fz)]
  unfold key
  rw [sx, sz]
  show (some (compare (rung .f64 x : Int) (rung .f64 z : Int)) == some .gt) = false
  rw [cmp_def]
  by_cases h1 : (rung .f64 x : Int) < (rung .f64 z : Int)
  · rw [if_pos h1]; rfl
  · rw [if_neg h1, if_pos (by omega)]; rfl
/-- a level that is at most the next number behind the peak is not greater than 1.0001 peaks -/
theorem lev_more {i q : Nat} (hi : i < 258) (hq : Nn (rung .f32 (plW i % 2147483648) + 1) q) (h0 : rung .f32 q = 0 ∨ 8388608 ≤ rung .f32 q) :
    ∃ z, floatBits .mul .f64 cMore (w64 (plW i % 2147483648)) = some z ∧ (FloatKind.f64.format.order (w64 q) z == some .gt) = false := by
  have ht := peak_tab i hi
  obtain ⟨p1, p2⟩ := pl_small i hi
  generalize plW i % 2147483648 = P at *
  have hP : rung .f32 P = P := by rw [rung32]; omega
  rw [hP] at hq
  cases hz : floatBits .mul .f64 cMore (w64 P) with
  | none => rw [hz] at ht; exact absurd ht Bool.false_ne_true
  | some z =>
    rw [hz] at ht
    simp only [Bool.and_eq_true, Bool.or_eq_true, decide_eq_true_eq] at ht
    obtain ⟨⟨sz, fz⟩, hr⟩ := ht
    obtain ⟨D, hD⟩ : ∃ D : Nat, D = 925 := ⟨_, rfl⟩
    obtain ⟨fq, sq, vq⟩ := wide_finD hq.fin D hD
    refine ⟨z, rfl, not_gt64 fq fz (sq.trans hq.sgn) sz ?_⟩
    have hle : rung .f32 q ≤ P + 1 := hq.le
    rcases hr with h1 | h1
    · have hq0 : rung .f32 q = 0 := by omega
      rw [hq0, zv_zero, Nat.zero_mul] at vq
      have := (zv_inj .f64 (r := rung .f64 (w64 q)) (s := 0)).1 (by rw [zv_zero]; exact vq)
      omega
    · refine Nat.le_trans ?_ h1
      have f1 : Fl.Fin .f32 (P + 1) := by show rung .f32 _ < _; rw [rung32, ir_f32]; omega
      obtain ⟨_, _, v1⟩ := wide_finD f1 D hD
      have hr1 : rung .f32 (P + 1) = P + 1 := by rw [rung32]; omega
      refine (zv_le .f64).1 ?_
      rw [vq, v1, hr1]
      exact Nat.mul_le_mul_right _ ((zv_le .f32).2 hle)
/-- levels of plain numbers, against their peak -/
theorem peak_plain (xs : List Nat) (hs : Small xs) {n : Nat} (hp : ∀ j, j < n → Pl (ab .f32 (wd xs j))) :
    ∃ i, i < 258 ∧ peakN xs n = plW i % 2147483648 ∧ ∀ j, j < n → ∃ s, sizeO (ab .f32 (wd xs j)) = some s ∧ Nn (rung .f32 (plW i % 2147483648) + 1) s ∧ rung .f32 s + 1 ≤ rung .f32 (plW i % 2147483648) + 1 := by
  obtain ⟨h1, h2, h3⟩ := peak_spec xs hs n
  have hw : ∀ j, j < n → ∃ i, i < 258 ∧ wd xs j = plW i := fun j hj => by
    obtain ⟨i, hi, e⟩ := hp j hj
    exact ⟨i, hi, (ab_some e).symm⟩
  have hi : ∃ i, i < 258 ∧ peakN xs n = plW i % 2147483648 := by
    rcases h3 with h | ⟨j, hj, h⟩
    · exact ⟨64, by decide, by rw [h]; decide⟩
    · obtain ⟨i, hi, e⟩ := hw j hj
      exact ⟨i, hi, by rw [← h, e]; rfl⟩
  obtain ⟨i, hi, hP⟩ := hi
  refine ⟨i, hi, hP, fun j hj => ?_⟩
  obtain ⟨s, e1, e2, e3⟩ := pl_size (hp j hj)
  obtain ⟨i', hi', e⟩ := hw j hj
  obtain ⟨p1, p2⟩ := pl_small i' hi'
  have hsz := h2 j hj (by rw [e]; unfold sizeN; omega)
  rw [hP] at hsz
  have es : s = plW i' % 2147483648 := by
    obtain ⟨i2, hi2, e4⟩ := hp j hj
    have : wd xs j = plW i2 := (ab_some e4).symm
    rw [e4] at e1
    injection e1 with e1
    rw [← e1, ← e, this]; rfl
  have hr : rung .f32 s = s := by rw [rung32, es]; omega
  have hrP : rung .f32 (plW i % 2147483648) = plW i % 2147483648 := by rw [rung32]; omega
  rw [e] at hsz
  have hle : rung .f32 s ≤ rung .f32 (plW i % 2147483648) := by rw [hr, hrP, es]; exact hsz
  exact ⟨s, e1, ⟨e2.lt, e2.fin, e2.sgn, by omega⟩, by omega⟩
end Go.Proofs.Ytagcepankiinpaa

/- Dynamics: squeezed samples, the model's. -/
set_option linter.unusedVariables false
set_option linter.unusedSimpArgs false
namespace Go.Proofs.Ytagcepankiinpaa
open Fl Go.RowKit
structure SquN where
  a : Nat
  r : Nat
  l : Nat
  t : Nat
  q : Nat
structure Squ where
  a : O
  r : O
  l : O
  t : O
  q : O
def SquN.val (d : SquN) : Value := .agg #[.float .f32 d.a, .float .f32 d.r, .float .f32 d.l, .float .f32 d.t, .float .f32 d.q]
structure FvSqu (d : SquN) (D : Squ) : Prop where
  a : Hid (Fv .f32 d.a D.a)
  r : Hid (Fv .f32 d.r D.r)
  l : Hid (Fv .f32 d.l D.l)
  t : Hid (Fv .f32 d.t D.t)
  q : Hid (Fv .f32 d.q D.q)
def PLQB (n0 : Nat) (f0 : Nat → Option Nat) (S : Squ) (b : Bool) (w : World) (e : Ending) (w' : World) : Prop :=
  ∃ (p : Ls) (c : Nat) (s : SquN), e = .returned (.tuple #[.slice p.A p.n c, s.val, .bool b]) ∧ p.n = n0 ∧ Gs 24 w' w.heap.size p.A p.n p.xs ∧ Are p f0 ∧ FvSqu s S ∧ w.Since w.heap.size w'
/-- a squeeze's block -/
def SquB (w : World) (g a r l t q : Nat) : Prop := w.heap[g]? = some (.cells #[.float .f32 a, .float .f32 r, .float .f32 l, .float .f32 t, .float .f32 q] 28 (0, 0))
structure SquAt (w : World) (g a r l t q : Nat) : Prop where
  f : FolAt w g a r l
  t : w.cell? ⟨g, 3, none⟩ = some (.float .f32 t)
  q : w.cell? ⟨g, 4, none⟩ = some (.float .f32 q)
theorem SquB.at_ {w : World} {g a r l t q : Nat} (h : SquB w g a r l t q) : SquAt w g a r l t q := by
  unfold SquB at h
  exact ⟨⟨(Array.getElem?_eq_some_iff.1 h).1, by simp [World.cell?, h], by simp [World.cell?, h], by simp [World.cell?, h]⟩, by simp [World.cell?, h], by simp [World.cell?, h]⟩
theorem SquB.free {w : World} {g a r l t q o : Nat} (h : SquB w g a r l t q) : w.frozen? ⟨g, o, none⟩ = false := by
  unfold SquB at h
  simp [World.frozen?, h]
theorem SquB.of {w w' : World} {g a r l t q : Nat} (h : SquB w g a r l t q) (e : w'.heap[g]? = w.heap[g]?) : SquB w' g a r l t q := e.trans h
theorem SquB.set {w : World} {g a r l t q y : Nat} (h : SquB w g a r l t q) : SquB (w.setCell ⟨g, 2, none⟩ (.float .f32 y)) g a r y t q := by
  unfold SquB at h ⊢
  simp [World.setCell, Array.getElem?_modify, h]
theorem SquB.set5 {w : World} {g a r l t q x0 x1 x2 x3 x4 : Nat} (h : SquB w g x0 x1 x2 x3 x4) : SquB (((((w.setCell ⟨g, 0, none⟩ (.float .f32 a)).setCell ⟨g, 1, none⟩ (.float .f32 r)).setCell ⟨g, 2, none⟩ (.float .f32 l)).setCell ⟨g, 3, none⟩ (.float .f32 t)).setCell ⟨g, 4, none⟩ (.float .f32 q)) g a r l t q := by
  unfold SquB at h ⊢
  simp [World.setCell, Array.getElem?_modify, h]
theorem SquB.new (w : World) (a r l t q : Nat) : SquB (w.alloc (.cells #[.float .f32 a, .float .f32 r, .float .f32 l, .float .f32 t, .float .f32 q] 28)) w.heap.size a r l t q := Go.Deep.blk_alloc_new _ _
def sqL (D : Squ) (Y : Nat → O) (k : Nat) : O := levO ⟨D.a, D.r, D.l⟩ Y k
def sqO (D : Squ) (X Y : Nat → O) (k : Nat) : O := mu (X k) (gainO (sqL D Y (k + 1)) D.t D.q)
theorem gainO_ex {l t r : Nat} {L T R : O} (hl : Hid (Fv .f32 l L)) (ht : Hid (Fv .f32 t T)) (hr : Hid (Fv .f32 r R)) : ∃ q, Fv .f32 q (gainO L T R) := by
  unfold gainO
  cases gtO L T
  · exact ⟨_, fv1.out⟩
  · obtain ⟨d, hd⟩ := Lo.fv_ex (op := .sub) rfl .f32 _ _ _ _ hl.out ht.out
    obtain ⟨p, hp⟩ := Lo.fv_ex (op := .quo) rfl .f32 _ _ _ _ hd hr.out
    obtain ⟨s, hs⟩ := Lo.fv_ex (op := .add) rfl .f32 _ _ _ _ ht.out hp
    exact Lo.fv_ex (op := .quo) rfl .f32 _ _ _ _ hs hl.out
/-- the list and the squeeze behind it -/
def PLQ (n0 : Nat) (f0 : Nat → Option Nat) (S : Squ) (w : World) (e : Ending) (w' : World) : Prop :=
  ∃ (p : Ls) (c : Nat) (s : SquN), e = .returned (.tuple #[.slice p.A p.n c, s.val]) ∧ p.n = n0 ∧ Gs 24 w' w.heap.size p.A p.n p.xs ∧ Are p f0 ∧ FvSqu s S ∧ w.Since w.heap.size w'
end Go.Proofs.Ytagcepankiinpaa

/- Dynamics: RunSqueeze and DuckSamples of the model. -/
set_option linter.unusedVariables false
set_option linter.unusedSimpArgs false
namespace Go.Proofs.Ytagcepankiinpaa
open Fl Go.RowKit
theorem PLQB.none_ {w w' : World} (s : w.Since w.heap.size w') (f0 : Nat → Option Nat) : PLQB 0 f0 ⟨some 0, some 0, some 0, some 0, some 0⟩ false w (.returned (.tuple #[.slice none 0 0, .agg #[.float .f32 0, .float .f32 0, .float .f32 0, .float .f32 0, .float .f32 0], .bool false])) w' :=
  ⟨⟨none, 0, []⟩, 0, ⟨0, 0, 0, 0, 0⟩, rfl, rfl, Gs.nil_, (fun k hk => by simp at hk), ⟨fv0, fv0, fv0, fv0, fv0⟩, s⟩
end Go.Proofs.Ytagcepankiinpaa

/- Dynamics: DuckSamples and RunSqueeze of the program. -/
set_option linter.unusedVariables false
set_option linter.unusedSimpArgs false
namespace Go.Proofs.Ytagcepankiinpaa
open Fl Go.RowKit
theorem implGain_hc (l t r : Nat) (L T R : O) (w : World) (hl : Hid (Fv .f32 l L)) (ht : Hid (Fv .f32 t T)) (hr : Hid (Fv .f32 r R)) (m : Nat) :
    Calls Try.prog 15 #[.float .f32 l, .float .f32 t, .float .f32 r] (w.drewN m) fun e w' => ∃ q n, e = .returned (.float .f32 q) ∧ Fv .f32 q (gainO L T R) ∧ w' = w.drewN n :=
  (implGain_any l t r L T R _ hl ht hr).mono fun e w' ⟨q, n, h1, h2, h3⟩ => ⟨q, m + n, h1, h2, h3.trans (by simp [World.drewN, Nat.add_assoc])⟩
set_option maxHeartbeats 2000000 in
set_option maxRecDepth 100000 in
theorem duckClos_any (k n gb gy gs l t q : Nat) (L T Q : O) (W : World) (hl : Hid (Fv .f32 l L)) (ht : Hid (Fv .f32 t T)) (hq : Hid (Fv .f32 q Q)) (hk : k < n) (hn : n ≤ 256) (hb : W.cell? ⟨gb, 0, none⟩ = some (.slice (some ⟨gy, 0, none⟩) n n)) (hy : W.cell? ⟨gy, k, none⟩ = some (.float .f32 l)) (h3 : W.cell? ⟨gs, 3, none⟩ = some (.float .f32 t)) (h4 : W.cell? ⟨gs, 4, none⟩ = some (.float .f32 q)) :
    Calls Try.prog 27 #[.int .i64 (k : Int), .pointer (some ⟨gb, 0, none⟩), .pointer (some ⟨gs, 0, none⟩)] W fun e W' => ∃ r m, e = .returned (.float .f32 r) ∧ Hid (Fv .f32 r (gainO L T Q)) ∧ W.drewN m = W' := by
  go_enter Try.func27, Try.ntmps27
  go_wp2_with fail
  refine Lo.wp_loose_all [13,4] (by kernel_rfl) (by kernel_rfl) ?_
  repeat (first
    | (refine Lo.wpL_callF rfl 15 [.tmp 8, .tmp 10, .tmp 12] [.float .f32 l, .float .f32 t, .float .f32 q] _ rfl (by decide) (callsEnter 15 Try.f15 _ (by kernel_rfl) (by kernel_rfl) rfl) .f32 _ (Lo.keeps [8, 10, 12] _ rfl (by decide)) (implGain_hc l t q _ _ _ W hl ht hq) (gainO_ex hl ht hq) ?_; intro rr hrr; simp only [Act.put, List.setIfInBounds_toArray, List.set_cons_succ, List.set_cons_zero])
    | (refine Lo.wpL_move rfl _ (.inl rfl) (by decide) ?_; simp only [Act.put, List.setIfInBounds_toArray, List.set_cons_succ, List.set_cons_zero])
    | (refine Lo.wpL_move rfl _ (.inr rfl) (by decide) ?_; simp only [Act.put, List.setIfInBounds_toArray, List.set_cons_succ, List.set_cons_zero])
    | (refine Lo.wpL_fop rfl _ _ _ _ rfl rfl (by decide) _ _ _ _ _ rfl rfl (by assumption) (by assumption) ?_; intro rr hrr; simp only [Act.put, List.setIfInBounds_toArray, List.set_cons_succ, List.set_cons_zero])
    | (refine Lo.wpL_wide rfl _ _ _ rfl (by decide) _ _ rfl (by kernel_rfl) (by kernel_rfl) (by assumption) ?_; intro rr hrr; simp only [Act.put, List.setIfInBounds_toArray, List.set_cons_succ, List.set_cons_zero])
    | (refine Lo.wpL_quiet rfl (by decide) (fun K hK => ?_); go_big_quiet_op; (refine hK _ ?_; clear hK K)))
  refine Lo.wpL_nil ?_
  refine Lo.after_fl rfl (by assumption) ?_; intro q13 h13; simp only [Act.put, List.setIfInBounds_toArray, List.set_cons_succ, List.set_cons_zero]
  refine Lo.after_fl rfl (by assumption) ?_; intro q4 h4; simp only [Act.put, List.setIfInBounds_toArray, List.set_cons_succ, List.set_cons_zero]
  refine Lo.after_nil ?_; intro nq
  go_wp2
  go_ret
  exact ⟨_, _, rfl, h4, rfl⟩
theorem implPair_b (A C : Option Addr) (n m c c2 : Nat) (b : Bool) (w : World) (hn : n ≤ 9223372036854775807) (h : (decide (n ≤ 256 ∧ m = n)) = b) :
    Calls Try.prog 25 #[.slice A n c, .slice C m c2] w fun e w' => e = .returned (.bool b) ∧ w' = w := by
  by_cases h1 : (n : Int) = (m : Int)
  · have e2 : b = decide ((n : Int) ≤ 256) := by
      rw [← h]
      by_cases h3 : n ≤ 256
      · rw [decide_eq_true ⟨h3, by omega⟩, decide_eq_true (by omega)]
      · rw [decide_eq_false (fun h => h3 h.1), decide_eq_false (by omega)]
    clear h
    cases h5 : decide ((n : Int) ≤ 256)
    all_goals
      rw [h5] at e2
      subst e2
      obtain rfl : m = n := by omega
      go_enter Try.func25, Try.ntmps25
      go_wp2_with (first | (go_at_call 19; refine (implSamples_b _ _ _ _ _ h5).mono ?_; rintro e w' ⟨rfl, rfl⟩))
      go_ret
      exact ⟨rfl, rfl⟩
  · have e2 : b = false := by rw [← h]; exact decide_eq_false (fun h => h1 (by omega))
    subst e2
    clear h
    go_enter Try.func25, Try.ntmps25
    go_wp2
    go_ret
    exact ⟨rfl, rfl⟩
set_option maxHeartbeats 8000000 in
set_option maxRecDepth 100000 in
theorem implDuckSq_ok (d : SquN) (D : Squ) (A C : Option Addr) (n c c2 : Nat) (xs ys : List Nat) (w : World) (hD : FvSqu d D) (hA : Fs w w.heap.size A n xs) (hB : Fs w w.heap.size C n ys) (hn : n ≤ 256) :
    Calls Try.prog 14 #[d.val, .slice A n c, .slice C n c2] w (PLQB n (sqO D (fun k => ab .f32 (wd xs k)) (fun k => ab .f32 (wd ys k))) ⟨D.a, D.r, sqL D (fun k => ab .f32 (wd ys k)) n, D.t, D.q⟩ true w) := by
  obtain ⟨a, r, l, t, q0⟩ := d
  obtain ⟨ha, hr, hl, ht, hq0⟩ := hD
  simp only at ha hr hl ht hq0
  have HA := Lib.hid hA
  have HB := Lib.hid hB
  simp only [SquN.val]
  clear hA hB
  obtain ⟨W1, hW1⟩ : ∃ W, W = w.alloc (.cells #[.float .f32 a, .float .f32 r, .float .f32 l, .float .f32 t, .float .f32 q0] 28) := ⟨_, rfl⟩
  obtain ⟨W2, hW2⟩ : ∃ W, W = W1.alloc (.cells #[.float .f32 0, .float .f32 0, .float .f32 0, .float .f32 0, .float .f32 0] 28) := ⟨_, rfl⟩
  have z1 : W1.heap.size = w.heap.size + 1 := by rw [hW1]; simp
  have z2 : W2.heap.size = w.heap.size + 1 + 1 := by rw [hW2]; simp [z1]
  have f1 : SquB W1 w.heap.size a r l t q0 := by rw [hW1]; exact SquB.new _ _ _ _ _ _
  have F2 : Hid (SquB W2 (w.heap.size + 1) 0 0 0 0 0) := Lib.hid (by rw [hW2, ← z1]; exact SquB.new _ _ _ _ _ _)
  have F1 : Hid (SquB W2 w.heap.size a r l t q0) := Lib.hid (f1.of (by rw [hW2]; exact blk_keep _ (by omega)))
  have S2 : Hid (w.Since w.heap.size W2) := Lib.hid (by rw [hW2, hW1]; exact ((World.Since.refl _ _).alloc (Nat.le_refl _) _).alloc (by simp) _)
  have HW1 := Lib.hid hW1; have HW2 := Lib.hid hW2; have Z2 := Lib.hid z2
  clear hW1 hW2 f1 z1 z2
  go_enter Try.func14, Try.ntmps14
  go_wp2_with (first | (go_at_call 25; refine (implPair_b _ _ _ _ _ _ true _ (by omega) (decide_eq_true ⟨hn, rfl⟩)).mono ?_; rintro e w' ⟨rfl, rfl⟩) | fail)
  rw [← HW1.out, ← HW2.out]
  have hz2 := Z2.out
  refine (results_at C n c2 ys 21 #[.pointer (some ⟨w.heap.size, 0, none⟩)] w.heap.size (fun k W => ∃ q, SquB W w.heap.size a r q t q0 ∧ SquB W (w.heap.size + 1) 0 0 0 0 0 ∧ Hid (Fv .f32 q (sqL D (fun k => ab .f32 (wd ys k)) k))) (fun k => sqL D (fun k => ab .f32 (wd ys k)) (k + 1)) W2 (HB.out.since S2.out) (by omega) hn (fun _ _ => rfl) ?hI ?hst ⟨l, F1.out, F2.out, hl⟩).mono ?_
  case hI =>
    rintro k W W' ⟨q, h1, h2, h3⟩ h4 h5 h6
    exact ⟨q, h1.of (h6 _ (by omega)), h2.of (h6 _ (by omega)), h3⟩
  case hst =>
    rintro k q W hk rfl ⟨q1, h1, h2, h3⟩ hs
    refine (implFollow_any w.heap.size a r q1 (wd ys k) D.a D.r _ _ W h1.at_.f h1.free ha hr h3 (Lib.hid ⟨HB.out.2.1.at_ k, rfl⟩)).mono ?_
    rintro e W' ⟨q2, rfl, hq2, m, rfl⟩
    exact ⟨q2, rfl, hq2, ⟨q2, h1.set, h2.of (Go.Deep.blk_setCell_other _ _ _ _ (show w.heap.size + 1 ≠ w.heap.size by omega)), hq2⟩, ((On.refl _ _).set _ _).drewN _⟩
  rintro e w5 ⟨vs, rfl, hg, hare, ⟨q, h1, h2, h3⟩, ho⟩
  rw [hz2] at hg
  rw [hz2]
  have HG := Lib.hid hg; have HAA := Lib.hid hare; have HO := Lib.hid ho; have HF := Lib.hid h1; have HF2 := Lib.hid h2
  have hz5 := ho.1.size
  rw [hz2] at hz5
  clear hg hare ho h1 h2 hz2
  go_wp2_with fail
  generalize hV : World.alloc _ _ = V
  have zV : Hid (V.heap.size = w5.heap.size + 1) := Lib.hid (by rw [← hV]; simp)
  have VB : Hid (SquB V w.heap.size a r q t q0) := Lib.hid (by rw [← hV]; exact HF.out.of (blk_keep _ (by omega)))
  have VZ0 : Hid (SquB V (w.heap.size + 1) 0 0 0 0 0) := Lib.hid (by rw [← hV]; exact HF2.out.of (blk_keep _ (by omega)))
  have VS0 : Hid (w.Since w.heap.size V) := Lib.hid (by rw [← hV]; exact (S2.out.trans (HO.out.since (Nat.le_refl _))).alloc (by omega) _)
  have VG0 : Hid (Gs 24 V (w.heap.size + 1 + 1) (some ⟨w.heap.size + 1 + 1, 0, none⟩) n vs) := Lib.hid (by rw [← hV]; exact HG.out.since ((World.Since.refl _ _).alloc (Nat.le_refl _) _))
  have VL : Hid (V.cell? ⟨w5.heap.size, 0, none⟩ = some (.slice (some ⟨w.heap.size + 1 + 1, 0, none⟩) n n)) := Lib.hid (by rw [← hV]; simp [go_sem])
  clear hV
  have hzV := zV.out
  refine (gains_any A n c xs 27 #[.pointer (some ⟨w5.heap.size, 0, none⟩), .pointer (some ⟨w.heap.size, 0, none⟩)] w.heap.size (fun _ W => ∀ b, b < V.heap.size → W.heap[b]? = V.heap[b]?) (fun k => gainO (sqL D (fun k => ab .f32 (wd ys k)) (k + 1)) D.t D.q) V (HA.out.since VS0.out) (by omega) hn (fun _ _ => rfl) ?hI2 ?hst2 (fun _ _ => rfl)).mono ?_
  case hI2 => exact fun k W W' h1 h2 h3 h4 b hb => (h4 b hb).trans (h1 b hb)
  case hst2 =>
    rintro k W hk hi hs
    obtain ⟨g, cs, eg, hgl, hgb, hgc⟩ := VG0.out.2.2 (by omega)
    injection eg with eg; injection eg with eg _ _; subst eg
    have hlt2 : w.heap.size + 1 + 1 < V.heap.size := (Array.getElem?_eq_some_iff.1 hgb).1
    have y1 : W.cell? ⟨w.heap.size + 1 + 1, k, none⟩ = some (.float .f32 (wd vs k)) := (cell_of_block (hi _ hlt2) _).trans (by simp only [World.cell?, hgb]; simpa [fv] using hgc k hk)
    refine (duckClos_any k n w5.heap.size (w.heap.size + 1 + 1) w.heap.size (wd vs k) t q0 (sqL D (fun k => ab .f32 (wd ys k)) (k + 1)) D.t D.q W ?_ ht hq0 hk hn ((cell_of_block (hi _ (by omega)) _).trans VL.out) y1 ((cell_of_block (hi _ (by omega)) _).trans VB.out.at_.t) ((cell_of_block (hi _ (by omega)) _).trans VB.out.at_.q)).mono ?_
    · exact Lib.hid ⟨VG0.out.2.1.at_ k, HAA.out k hk⟩
    · rintro e W' ⟨r2, m, rfl, hr2, rfl⟩
      exact ⟨r2, rfl, hr2, hi, (On.refl _ _).drewN m⟩
  rintro e w6 ⟨zs, rfl, hg, hare, hi, ho⟩
  have HG6 := Lib.hid hg; have HAR0 := Lib.hid hare; have HO6 := Lib.hid ho; have HI6 := Lib.hid hi
  have hz6 := ho.1.size
  clear hg hare ho hi
  obtain ⟨p, hp⟩ : ∃ p : Ls, p = ⟨some ⟨V.heap.size, 0, none⟩, n, zs⟩ := ⟨_, rfl⟩
  have HPN : Hid (p.n = n) := Lib.hid (by rw [hp])
  have HAR : Hid (Are p (sqO D (fun k => ab .f32 (wd xs k)) (fun k => ab .f32 (wd ys k)))) := Lib.hid (by rw [hp]; exact HAR0.out)
  have HFV : Hid (FvSqu ⟨a, r, q, t, q0⟩ ⟨D.a, D.r, sqL D (fun k => ab .f32 (wd ys k)) n, D.t, D.q⟩) := Lib.hid ⟨ha, hr, h3, ht, hq0⟩
  have WB : Hid (SquB w6 w.heap.size a r q t q0) := Lib.hid (VB.out.of (HI6.out _ (by omega)))
  have VZ : Hid (SquB w6 (w.heap.size + 1) 0 0 0 0 0) := Lib.hid (VZ0.out.of (HI6.out _ (by omega)))
  have VS : Hid (w.Since w.heap.size w6) := Lib.hid (VS0.out.trans (HO6.out.since (Nat.le_refl _)))
  have VG : Hid (Gs 24 w6 (w.heap.size + 1 + 1) p.A p.n p.xs) := Lib.hid (by rw [hp]; exact HG6.out.less (by omega))
  have hpA : (Value.slice (some ⟨V.heap.size, 0, none⟩) n n) = .slice p.A p.n n := by rw [hp]
  rw [hpA]
  clear hp hpA
  have c1 := WB.out.at_.f.a
  have c2' := WB.out.at_.f.r
  have c3 := WB.out.at_.f.l
  have c4 := WB.out.at_.t
  have c5 := WB.out.at_.q
  have d1 := VZ.out.at_.f.a
  have d2 := VZ.out.at_.f.r
  have d3 := VZ.out.at_.f.l
  have d4 := VZ.out.at_.t
  have d5 := VZ.out.at_.q
  have e0 := fun o => VZ.out.free (o := o)
  go_wp2_with fail
  go_region
  all_goals
    have G9 : SquB _ (w.heap.size + 1) a r q t q0 := VZ.out.set5 (a := a) (r := r) (l := q) (t := t) (q := q0)
    have S9 := ((((VS.out.setCell (a := ⟨w.heap.size + 1, 0, none⟩) (by simp) (.float .f32 a)).setCell (a := ⟨w.heap.size + 1, 1, none⟩) (by simp) (.float .f32 r)).setCell (a := ⟨w.heap.size + 1, 2, none⟩) (by simp) (.float .f32 q)).setCell (a := ⟨w.heap.size + 1, 3, none⟩) (by simp) (.float .f32 t)).setCell (a := ⟨w.heap.size + 1, 4, none⟩) (by simp) (.float .f32 q0)
    have O9 : Gs 24 _ (w.heap.size + 1 + 1) p.A p.n p.xs := VG.out.onLow (((On.refl (w.heap.size + 1) w6).set 0 (.float .f32 a)).set 1 (.float .f32 r) |>.set 2 (.float .f32 q) |>.set 3 (.float .f32 t) |>.set 4 (.float .f32 q0)) (by omega)
    generalize World.setCell _ _ _ = W9 at *
    have g1 := G9.at_.f.a
    have g2 := G9.at_.f.r
    have g3 := G9.at_.f.l
    have g4 := G9.at_.t
    have g5 := G9.at_.q
    have S10 := Lib.hid S9; have O10 := Lib.hid O9; clear S9 O9 d1 d2 d3 d4 d5 c1 c2' c3 c4 c5 e0 G9
    go_wp2
    exact bodyPost_ret (v := .tuple #[.slice p.A p.n n, .agg #[.float .f32 a, .float .f32 r, .float .f32 q, .float .f32 t, .float .f32 q0], .bool true]) (by simp [results, Try.results14, go_sem, g1, g2, g3, g4, g5]) rfl
      ⟨p, n, ⟨a, r, q, t, q0⟩, rfl, HPN.out, O10.out.less (by omega), HAR.out, HFV.out, (by first | exact since_drewN S10.out 1 | exact S10.out)⟩
theorem implDuckSq_no (d : SquN) (A C : Option Addr) (n m c c2 : Nat) (w : World) (hs : n ≤ 9223372036854775807) (hn : ¬ (n ≤ 256 ∧ m = n)) (f : Nat → O) : Calls Try.prog 14 #[d.val, .slice A n c, .slice C m c2] w (PLQB 0 f ⟨some 0, some 0, some 0, some 0, some 0⟩ false w) := by
  obtain ⟨a, r, l, t, q0⟩ := d
  simp only [SquN.val]
  go_enter Try.func14, Try.ntmps14
  go_wp2_with (first | (go_at_call 25; refine (implPair_b _ _ _ _ _ _ false _ hs (decide_eq_false hn)).mono ?_; rintro e w' ⟨rfl, rfl⟩))
  exact bodyPost_ret (v := .tuple #[.slice none 0 0, .agg #[.float .f32 0, .float .f32 0, .float .f32 0, .float .f32 0, .float .f32 0], .bool false]) (by simp [results, Try.results14, go_sem]) rfl (PLQB.none_ (by (repeat (first | (with_reducible refine Fl.sinDrew ?_) | (with_reducible refine World.Since.drew ?_) | (with_reducible refine Fl.sinSet ?_ ?_; rotate_left) | (with_reducible refine Fl.sinAlloc ?_ ?_; rotate_left) | with_reducible exact World.Since.refl _ _ | with_reducible assumption | (with_reducible refine Fl.sinStep (by with_reducible assumption) ?_))); all_goals (first | omega | (simp; done) | (simp; omega) | (simp [go_sem]; done) | (simp [go_sem]; omega))) _)
theorem PLQB.later {n0 : Nat} {f0 : Nat → O} {S : Squ} {b : Bool} {w w1 w2 : World} {e : Ending} (h : PLQB n0 f0 S b w1 e w2) (s : w.Since w.heap.size w1) : PLQB n0 f0 S b w e w2 := by
  obtain ⟨p, c, d, h1, h2, h3, h4, h5, h6⟩ := h
  exact ⟨p, c, d, h1, h2, h3.less s.size, h4, h5, since_step s h6⟩
set_option maxHeartbeats 4000000 in
set_option maxRecDepth 100000 in
theorem implRunSq_of (d : SquN) (A : Option Addr) (n c : Nat) (w : World) (n0 : Nat) (f0 : Nat → O) (S : Squ) (b : Bool) (h : ∀ W, w.Since w.heap.size W → Calls Try.prog 14 #[d.val, .slice A n c, .slice A n c] W (PLQB n0 f0 S b W)) :
    Calls Try.prog 13 #[d.val, .slice A n c] w (PLQB n0 f0 S b w) := by
  have H := Lib.hid h
  clear h
  obtain ⟨a, r, l, t, q0⟩ := d
  simp only [SquN.val] at H ⊢
  obtain ⟨W1, hW1⟩ : ∃ W, W = w.alloc (.cells #[.float .f32 a, .float .f32 r, .float .f32 l, .float .f32 t, .float .f32 q0] 28) := ⟨_, rfl⟩
  obtain ⟨W2, hW2⟩ : ∃ W, W = W1.alloc (.cells #[.float .f32 0, .float .f32 0, .float .f32 0, .float .f32 0, .float .f32 0] 28) := ⟨_, rfl⟩
  have z1 : W1.heap.size = w.heap.size + 1 := by rw [hW1]; simp
  have z2 : W2.heap.size = w.heap.size + 1 + 1 := by rw [hW2]; simp [z1]
  have f1 : SquB W1 w.heap.size a r l t q0 := by rw [hW1]; exact SquB.new _ _ _ _ _ _
  have F2 : Hid (SquB W2 (w.heap.size + 1) 0 0 0 0 0) := Lib.hid (by rw [hW2, ← z1]; exact SquB.new _ _ _ _ _ _)
  have F1 : Hid (SquB W2 w.heap.size a r l t q0) := Lib.hid (f1.of (by rw [hW2]; exact blk_keep _ (by omega)))
  have S2 : Hid (w.Since w.heap.size W2) := Lib.hid (by rw [hW2, hW1]; exact ((World.Since.refl _ _).alloc (Nat.le_refl _) _).alloc (by simp) _)
  have HW1 := Lib.hid hW1; have HW2 := Lib.hid hW2; have Z2 := Lib.hid z2
  clear hW1 hW2 f1 z1 z2
  go_enter Try.func13, Try.ntmps13
  go_wp2_with fail
  rw [← HW1.out, ← HW2.out]
  refine (H.out W2 S2.out).mono ?_
  rintro e w3 ⟨p, cp, s, rfl, hpn, hg, har, hfv, hs⟩
  obtain ⟨b0, b1, b2, b3, b4⟩ := s
  simp only [SquN.val]
  rw [Z2.out] at hg
  have HPN := Lib.hid hpn; have VG := Lib.hid hg; have HAR := Lib.hid har; have HFV := Lib.hid hfv; have VS := Lib.hid (since_step S2.out hs)
  have VZ : Hid (SquB w3 (w.heap.size + 1) 0 0 0 0 0) := Lib.hid (F2.out.of (hs.block _ (by rw [Z2.out]; omega)))
  clear hpn hg har hfv hs
  have d1 := VZ.out.at_.f.a
  have d2 := VZ.out.at_.f.r
  have d3 := VZ.out.at_.f.l
  have d4 := VZ.out.at_.t
  have d5 := VZ.out.at_.q
  have e0 := fun o => VZ.out.free (o := o)
  go_wp2
  have G9 : SquB _ (w.heap.size + 1) b0 b1 b2 b3 b4 := VZ.out.set5 (a := b0) (r := b1) (l := b2) (t := b3) (q := b4)
  have S9 := ((((VS.out.setCell (a := ⟨w.heap.size + 1, 0, none⟩) (by simp) (.float .f32 b0)).setCell (a := ⟨w.heap.size + 1, 1, none⟩) (by simp) (.float .f32 b1)).setCell (a := ⟨w.heap.size + 1, 2, none⟩) (by simp) (.float .f32 b2)).setCell (a := ⟨w.heap.size + 1, 3, none⟩) (by simp) (.float .f32 b3)).setCell (a := ⟨w.heap.size + 1, 4, none⟩) (by simp) (.float .f32 b4)
  have O9 : Gs 24 _ (w.heap.size + 1 + 1) p.A p.n p.xs := VG.out.onLow (((On.refl (w.heap.size + 1) w3).set 0 (.float .f32 b0)).set 1 (.float .f32 b1) |>.set 2 (.float .f32 b2) |>.set 3 (.float .f32 b3) |>.set 4 (.float .f32 b4)) (by omega)
  generalize World.setCell _ _ _ = W9 at *
  have g1 := G9.at_.f.a
  have g2 := G9.at_.f.r
  have g3 := G9.at_.f.l
  have g4 := G9.at_.t
  have g5 := G9.at_.q
  have S10 := Lib.hid S9; have O10 := Lib.hid O9; clear S9 O9 d1 d2 d3 d4 d5 e0 G9
  exact bodyPost_ret (v := .tuple #[.slice p.A p.n cp, .agg #[.float .f32 b0, .float .f32 b1, .float .f32 b2, .float .f32 b3, .float .f32 b4], .bool b]) (by simp [results, Try.results13, go_sem, g1, g2, g3, g4, g5]) rfl
    ⟨p, cp, ⟨b0, b1, b2, b3, b4⟩, rfl, HPN.out, O10.out.less (by omega), HAR.out, HFV.out, (by first | exact since_drewN S10.out 1 | exact S10.out)⟩
end Go.Proofs.Ytagcepankiinpaa

/- Squeezes of a law. -/
set_option linter.unusedVariables false
set_option linter.unusedSimpArgs false
namespace Go.Proofs.Ytagcepankiinpaa
open Fl Go.RowKit
theorem SquB.setA {w : World} {g a r l x0 x1 x2 x3 x4 : Nat} (h : SquB w g x0 x1 x2 x3 x4) : SquB (((w.setCell ⟨g, 0, none⟩ (.float .f32 a)).setCell ⟨g, 1, none⟩ (.float .f32 r)).setCell ⟨g, 2, none⟩ (.float .f32 l)) g a r l x3 x4 := by
  unfold SquB at h ⊢
  simp [World.setCell, Array.getElem?_modify, h]
theorem SquB.setT {w : World} {g t x0 x1 x2 x3 x4 : Nat} (h : SquB w g x0 x1 x2 x3 x4) : SquB (w.setCell ⟨g, 3, none⟩ (.float .f32 t)) g x0 x1 x2 t x4 := by
  unfold SquB at h ⊢
  simp [World.setCell, Array.getElem?_modify, h]
theorem SquB.setQ {w : World} {g q x0 x1 x2 x3 x4 : Nat} (h : SquB w g x0 x1 x2 x3 x4) : SquB (w.setCell ⟨g, 4, none⟩ (.float .f32 q)) g x0 x1 x2 x3 q := by
  unfold SquB at h ⊢
  simp [World.setCell, Array.getElem?_modify, h]
theorem implRunSq_ok (d : SquN) (D : Squ) (A : Option Addr) (n c : Nat) (xs : List Nat) (w : World) (hD : FvSqu d D) (hA : Fs w w.heap.size A n xs) (hn : n ≤ 256) :
    Calls Try.prog 13 #[d.val, .slice A n c] w (PLQB n (sqO D (fun k => ab .f32 (wd xs k)) (fun k => ab .f32 (wd xs k))) ⟨D.a, D.r, sqL D (fun k => ab .f32 (wd xs k)) n, D.t, D.q⟩ true w) :=
  implRunSq_of d A n c w _ _ _ _ (fun W s => implDuckSq_ok d D A A n c c xs xs W hD (hA.now s) (hA.now s) hn)
theorem implRunSq_no (d : SquN) (A : Option Addr) (n c : Nat) (w : World) (hs : n ≤ 9223372036854775807) (hn : ¬ n ≤ 256) (f : Nat → O) : Calls Try.prog 13 #[d.val, .slice A n c] w (PLQB 0 f ⟨some 0, some 0, some 0, some 0, some 0⟩ false w) :=
  implRunSq_of d A n c w _ _ _ _ (fun W s => implDuckSq_no d A A n n c c W hs (fun h => hn h.1) f)
end Go.Proofs.Ytagcepankiinpaa

/- Gains are at most 1; a squeeze that is drawn. -/
set_option linter.unusedVariables false
set_option linter.unusedSimpArgs false
namespace Go.Proofs.Ytagcepankiinpaa
open Fl Go.RowKit Ieee
def tL : List Nat := [0, 1031798784, 1040187392, 1044381696, 1048576000, 1050673152, 1052770304, 1054867456, 1056964608, 1058013184, 1059061760, 1060110336, 1061158912, 1062207488, 1063256064, 1064304640, 1065353216]
def tW (k : Nat) : Nat := tL.getD k 0
theorem tW_tab : ∀ k : Nat, k < 17 → opO .quo .f32 (some (fI (k : Int))) (some 1098907648) = some (tW k) ∧ zv .f32 (rung .f32 (tW k)) = k * 2 ^ 145 ∧ tW k < 4294967296 ∧ rung .f32 (tW k) ≤ 1065353216 ∧ sgn .f32 (tW k) = false := by decide +kernel
theorem tW_nn {k : Nat} (h : k < 17) : Nn 1065353216 (tW k) := by
  obtain ⟨_, _, h1, h2, h3⟩ := tW_tab k h
  exact ⟨h1, Nat.lt_of_le_of_lt h2 (by decide), h3, h2⟩
theorem rW_tab : ∀ j : Nat, j < 8 → ab .f32 (fI (1 + (j : Int))) = some (fI (1 + (j : Int))) ∧ fI (1 + (j : Int)) < 4294967296 ∧ 2 ^ 149 ≤ zv .f32 (rung .f32 (fI (1 + (j : Int)))) ∧ sgn .f32 (fI (1 + (j : Int))) = false ∧ rung .f32 (fI (1 + (j : Int))) ≠ 0 ∧ rung .f32 (fI (1 + (j : Int))) < 2139095040 := by decide +kernel
/-- a gain is from 0 to 1 -/
theorem gain_le {l k j : Nat} (hl : Nn 1092000000 l) (hk : k < 17) (hj : j < 8) :
    ∃ g, gainO (some l) (some (tW k)) (some (fI (1 + (j : Int)))) = some g ∧ Nn 1065353216 g ∧ (gtO (some l) (some (tW k)) = false → g = 1065353216) := by
  have ht := tW_nn hk
  obtain ⟨_, zt, _⟩ := tW_tab k hk
  obtain ⟨_, rl, rz, rs, r0, rf⟩ := rW_tab j hj
  have fr : Fl.Fin .f32 (fI (1 + (j : Int))) := by show rung .f32 _ < _; rw [ir_f32]; exact rf
  generalize fI (1 + (j : Int)) = r at *
  generalize tW k = t at *
  unfold gainO
  cases hg : gtO (some l) (some t)
  · exact ⟨1065353216, rfl, ⟨by decide, by show rung .f32 1065353216 < _; decide, by decide, by decide⟩, fun _ => rfl⟩
  · rw [nn_gt hl ht] at hg
    have hlt := of_decide_eq_true hg
    obtain ⟨m, e, hz, hform, hm⟩ := rung_form .f32 (rung .f32 l)
    have he := form_e (C := 1092000001) (E := 145) hform (by have := hl.le; omega) (by decide)
    have zle := (zv_lt .f32).2 hlt
    -- the difference is a number of the format
    obtain ⟨u, hu⟩ : ∃ u, u + e = 145 := ⟨145 - e, by omega⟩
    have ztu : zv .f32 (rung .f32 t) = k * 2 ^ u * 2 ^ e := by rw [zt, ← hu, Nat.pow_add, Nat.mul_assoc]
    have hkm : k * 2 ^ u ≤ m := by
      rw [ztu, hz] at zle
      exact Nat.le_of_lt (Nat.lt_of_mul_lt_mul_right zle)
    obtain ⟨q, hq, hzq⟩ := rep .f32 (m := m - k * 2 ^ u) (e := e) (Nat.lt_of_le_of_lt (Nat.sub_le _ _) hm) (by
      rw [ir_f32, show FloatKind.f32.format.binade = 8388608 from by decide]; omega)
    obtain ⟨d, hd, fd, vd⟩ := sub_exact .f32 hl.fin ht.fin hq (by
      rw [sv_nn hl, sv_nn ht, hzq, Nat.sub_mul, ← hz, ← ztu]; omega)
    rw [sv_nn hl, sv_nn ht] at vd
    have ld := opw_lt rfl hl.lt ht.lt hl.fin ht.fin hd
    have sd : sgn .f32 d = false := by
      cases h : sgn .f32 d
      · rfl
      · unfold sv sg at vd
        rw [h, if_pos rfl] at vd
        omega
    have nd : Nn (rung .f32 d) d := ⟨ld, fd, sd, Nat.le_refl _⟩
    rw [sv_nn nd] at vd
    obtain ⟨x, hx, hxle⟩ := div_size .f32 fd fr fd r0 149 (by decide) (Nat.mul_le_mul_left _ rz)
    obtain ⟨x', hx', sx⟩ := div_sign .f32 fd fr r0
    rw [hx] at hx'; injection hx' with hx'; subst hx'
    have nx : Nn (rung .f32 d) x := ⟨opw_lt rfl ld rl fd fr hx, Nat.lt_of_le_of_lt hxle fd, by rw [sx, sd, rs]; rfl, hxle⟩
    obtain ⟨s, hs, hR, h0⟩ := add_val .f32 ht.fin nx.fin
    rw [sv_nn ht, sv_nn nx] at hR h0
    have z1 := (zv_le .f32).2 hxle
    have hsl : rung .f32 s ≤ rung .f32 l := hR.le _ hl.fin (by omega)
    have ls := opw_lt rfl ht.lt nx.lt ht.fin nx.fin hs
    have ns : Nn (rung .f32 l) s := ⟨ls, Nat.lt_of_le_of_lt hsl hl.fin, by
      by_cases hv : (zv .f32 (rung .f32 t) : Int) + (zv .f32 (rung .f32 x) : Int) = 0
      · rw [h0 hv, ht.sgn]; rfl
      · rw [hR.sgn hv]; exact decide_eq_false (by omega), hsl⟩
    have l0 : rung .f32 l ≠ 0 := by omega
    have one : Fl.Fin .f32 1065353216 := by show rung .f32 1065353216 < _; decide
    obtain ⟨g, hgq, hgle⟩ := div_size .f32 ns.fin hl.fin one l0 149 (by decide) (by
      rw [show rung .f32 1065353216 = 1065353216 from by decide, zv_one, Nat.mul_comm]
      exact Nat.mul_le_mul_left _ ((zv_le .f32).2 hsl))
    obtain ⟨g', hg', sg'⟩ := div_sign .f32 ns.fin hl.fin l0
    rw [hgq] at hg'; injection hg' with hg'; subst hg'
    rw [show rung .f32 1065353216 = 1065353216 from by decide] at hgle
    refine ⟨g, ?_, ⟨opw_lt rfl ls hl.lt ns.fin hl.fin hgq, Nat.lt_of_le_of_lt hgle (by decide), by rw [sg', ns.sgn, hl.sgn]; rfl, hgle⟩, fun h => absurd h (by decide)⟩
    show opO .quo .f32 (opO .add .f32 (some t) (opO .quo .f32 (opO .sub .f32 (some l) (some t)) (some r))) (some l) = _
    rw [show opO .sub .f32 (some l) (some t) = some d from hd, show opO .quo .f32 (some d) (some r) = some x from hx, show opO .add .f32 (some t) (some x) = some s from hs]
    exact hgq
theorem SquB.setR {w : World} {g r x0 x1 x2 x3 x4 : Nat} (h : SquB w g x0 x1 x2 x3 x4) : SquB (w.setCell ⟨g, 1, none⟩ (.float .f32 r)) g x0 r x2 x3 x4 := by
  unfold SquB at h ⊢
  simp [World.setCell, Array.getElem?_modify, h]
theorem sinceSetQ {w a : World} (h : w.Since w.heap.size a) (o : Nat) (v : Value) : w.Since w.heap.size (a.setCell ⟨w.heap.size, o, none⟩ v) := h.setCell (Nat.le_refl _) _
theorem srcOwn {B b K g : Nat} {w : World} (h : Src B b K w) (hg : b < g) (o : Nat) (v : Value) : Src B b K (w.setCell ⟨g, o, none⟩ v) :=
  h.on ((World.Since.refl _ _).setCell (show b + 1 ≤ g by omega) _)
/-- a squeeze with shares from 0 to 1, a threshold of at least 0 and a ratio of at least 1 -/
def PSqu (w : World) (e : Ending) (w' : World) : Prop := ∃ (i1 i2 i3 j : Nat) (d : SquN), e = .returned d.val ∧ i1 < 17 ∧ i2 < 17 ∧ i3 < 17 ∧ j < 8 ∧ FvSqu d ⟨some (tW i1), some (tW i2), some 0, some (tW i3), some (fI (1 + (j : Int)))⟩ ∧ w.Since w.heap.size w'
set_option maxHeartbeats 4000000 in
set_option maxRecDepth 100000 in
theorem r8Squeeze_any (A : Option Addr) (n c : Nat) (xs : List Int) (w : World) (h : Bs w w.heap.size A n xs) (hn : n ≤ 1048576) :
    Calls Try.prog 6 #[.slice A n c] w (PSqu w) := by
  have HH := Lib.hid h; clear h
  have q16 : Hid (Fv .f32 1098907648 (some 1098907648)) := fvc (by decide) (by decide)
  go_enter Try.func6, Try.ntmps6
  go_wp2_with fail
  generalize hW : World.alloc w _ = W0
  have z0 : Hid (W0.heap.size = w.heap.size + 1) := Lib.hid (by rw [← hW]; simp)
  have R0 : Hid (SquB W0 w.heap.size 0 0 0 0 0) := Lib.hid (by rw [← hW]; exact SquB.new _ _ _ _ _ _)
  have T0 : Hid (w.Since w.heap.size W0) := Lib.hid (by rw [← hW]; exact (World.Since.refl _ _).alloc (Nat.le_refl _) _)
  clear hW
  refine (source_any A n c xs W0 ((HH.out.since T0.out (Nat.le_refl _)).more (by have := z0.out; omega)) hn).mono ?_
  rintro e w1 ⟨rfl, s1, t1⟩
  have S1 := Lib.hid s1; have T1 := Lib.hid (since_step T0.out t1); have R1 := Lib.hid (R0.out.of (t1.block _ (by have := z0.out; omega))); clear s1 t1
  obtain ⟨b, hb⟩ : ∃ b, Hid (b = W0.heap.size) := ⟨_, Lib.hid rfl⟩
  rw [← hb.out] at S1 ⊢
  have hbw : Hid (w.heap.size < b) := Lib.hid (by rw [hb.out, z0.out]; omega)
  clear hb z0 T0 R0
  go_wp2_with fail
  refine (pick_any b b 0 17 w1 S1.out (by omega) (by omega)).mono ?_
  rintro e w2 ⟨v2, rfl, a1, a2, s, o⟩
  have a3 := a2 (by omega)
  obtain ⟨i1, rfl⟩ := Int.eq_ofNat_of_zero_le a1
  have S2 := Lib.hid s; have T2 := Lib.hid (T1.out.trans (o.since (lo := w.heap.size) (by have := hbw.out; omega))); have R2 := Lib.hid (R1.out.of (o.2 _ R1.out.at_.f.lt (by have := hbw.out; omega)))
  have h1 : Hid (i1 < 17) := Lib.hid (by omega)
  clear s o a1 a2 a3 S1 T1 R1
  have q1 := fI_fv (i1 : Int)
  go_wp2_with (with_reducible_and_instances refine Lo.wpList_fo _ rfl _ _ _ _ _ rfl _ _ _ _ _ rfl rfl rfl (by assumption) (by assumption) ?_; intro rr nn hrr)
  generalize hW : World.drewN _ nn = W2
  obtain ⟨ra, hra⟩ : ∃ q, q = rr := ⟨_, rfl⟩
  subst hra
  obtain ⟨bx, hbx⟩ : ∃ q, Hid (q = w2.heap.size) := ⟨_, Lib.hid rfl⟩
  have hlt := S2.out.lt
  have X2 : Hid (SquB W2 bx ra 0 0 0 0) := Lib.hid (by rw [← hW, hbx.out]; exact SquB.new _ _ _ _ _ _)
  have S3 : Hid (Src b b 2 W2) := Lib.hid (by rw [← hW]; exact (S2.out.on ((World.Since.refl (b + 1) w2).alloc (by omega) _)).drewN _)
  have R3 : Hid (SquB W2 w.heap.size 0 0 0 0 0) := Lib.hid (by rw [← hW]; exact R2.out.of (blk_keep _ R2.out.at_.f.lt))
  have T3 : Hid (w.Since w.heap.size W2) := Lib.hid (by rw [← hW]; exact since_drewN (T2.out.alloc T2.out.size _) _)
  have hbb : Hid (b < bx) := Lib.hid (by rw [hbx.out]; exact hlt)
  have hrr1 : Hid (Fv .f32 ra (some (tW i1))) := Lib.hid (by rw [← (tW_tab i1 h1.out).1]; exact hrr.out)
  rw [← hbx.out]
  clear hW S2 R2 T2 hbx hlt hrr q1
  refine (pick_any b b 2 17 W2 S3.out (by omega) (by omega)).mono ?_
  rintro e w4 ⟨v4, rfl, a1, a2, s, o⟩
  have a3 := a2 (by omega)
  obtain ⟨i2, rfl⟩ := Int.eq_ofNat_of_zero_le a1
  have S4 := Lib.hid s; have T4 := Lib.hid (T3.out.trans (o.since (lo := w.heap.size) (by have := hbw.out; omega))); have R4 := Lib.hid (R3.out.of (o.2 _ R3.out.at_.f.lt (by have := hbw.out; omega)))
  have X4 := Lib.hid (X2.out.of (o.2 _ X2.out.at_.f.lt (by have := hbb.out; omega)))
  have h2 : Hid (i2 < 17) := Lib.hid (by omega)
  clear s o a1 a2 a3 S3 T3 R3 X2
  have q1 := fI_fv (i2 : Int)
  have x1 := X4.out.at_.f.r
  have e0 := X4.out.free (o := 1)
  go_wp2_with (with_reducible_and_instances refine Lo.wpList_fo _ rfl _ _ _ _ _ rfl _ _ _ _ _ rfl rfl rfl (by assumption) (by assumption) ?_; intro rr nn hrr)
  generalize hW : World.drewN _ nn = W5
  obtain ⟨rb, hrb⟩ : ∃ q, q = rr := ⟨_, rfl⟩
  subst hrb
  have X5 : Hid (SquB W5 bx ra rb 0 0 0) := Lib.hid (by rw [← hW]; exact X4.out.setR)
  have S5 : Hid (Src b b 4 W5) := Lib.hid (by rw [← hW]; exact (srcOwn S4.out hbb.out _ _).drewN _)
  have R5 : Hid (SquB W5 w.heap.size 0 0 0 0 0) := Lib.hid (by rw [← hW]; exact R4.out.of (Go.Deep.blk_setCell_other _ _ _ _ (by have := hbw.out; have := hbb.out; show w.heap.size ≠ bx; omega)))
  have T5 : Hid (w.Since w.heap.size W5) := Lib.hid (by rw [← hW]; exact since_drewN (T4.out.setCell (a := ⟨bx, 1, none⟩) (by have := hbw.out; have := hbb.out; show w.heap.size ≤ bx; omega) _) _)
  have hrr2 : Hid (Fv .f32 rb (some (tW i2))) := Lib.hid (by rw [← (tW_tab i2 h2.out).1]; exact hrr.out)
  clear hW S4 R4 T4 X4 hrr q1 x1 e0
  refine (pick_any b b 4 17 W5 S5.out (by omega) (by omega)).mono ?_
  rintro e w6 ⟨v6, rfl, a1, a2, s, o⟩
  have a3 := a2 (by omega)
  obtain ⟨i3, rfl⟩ := Int.eq_ofNat_of_zero_le a1
  have S6 := Lib.hid s; have T6 := Lib.hid (T5.out.trans (o.since (lo := w.heap.size) (by have := hbw.out; omega))); have R6 := Lib.hid (R5.out.of (o.2 _ R5.out.at_.f.lt (by have := hbw.out; omega)))
  have X6 := Lib.hid (X5.out.of (o.2 _ X5.out.at_.f.lt (by have := hbb.out; omega)))
  have h3 : Hid (i3 < 17) := Lib.hid (by omega)
  clear s o a1 a2 a3 S5 T5 R5 X5
  have q1 := fI_fv (i3 : Int)
  have x1 := X6.out.at_.t
  have e0 := X6.out.free (o := 3)
  go_wp2_with (with_reducible_and_instances refine Lo.wpList_fo _ rfl _ _ _ _ _ rfl _ _ _ _ _ rfl rfl rfl (by assumption) (by assumption) ?_; intro rr nn hrr)
  generalize hW : World.drewN _ nn = W7
  obtain ⟨rc, hrc⟩ : ∃ q, q = rr := ⟨_, rfl⟩
  subst hrc
  have X7 : Hid (SquB W7 bx ra rb 0 rc 0) := Lib.hid (by rw [← hW]; exact X6.out.setT)
  have S7 : Hid (Src b b 6 W7) := Lib.hid (by rw [← hW]; exact (srcOwn S6.out hbb.out _ _).drewN _)
  have R7 : Hid (SquB W7 w.heap.size 0 0 0 0 0) := Lib.hid (by rw [← hW]; exact R6.out.of (Go.Deep.blk_setCell_other _ _ _ _ (by have := hbw.out; have := hbb.out; show w.heap.size ≠ bx; omega)))
  have T7 : Hid (w.Since w.heap.size W7) := Lib.hid (by rw [← hW]; exact since_drewN (T6.out.setCell (a := ⟨bx, 3, none⟩) (by have := hbw.out; have := hbb.out; show w.heap.size ≤ bx; omega) _) _)
  have hrr3 : Hid (Fv .f32 rc (some (tW i3))) := Lib.hid (by rw [← (tW_tab i3 h3.out).1]; exact hrr.out)
  clear hW S6 R6 T6 X6 hrr q1 x1 e0
  refine (pick_any b b 6 8 W7 S7.out (by omega) (by omega)).mono ?_
  rintro e w8 ⟨v8, rfl, a1, a2, s, o⟩
  have a3 := a2 (by omega)
  obtain ⟨j, rfl⟩ := Int.eq_ofNat_of_zero_le a1
  have T8 := Lib.hid (T7.out.trans (o.since (lo := w.heap.size) (by have := hbw.out; omega))); have R8 := Lib.hid (R7.out.of (o.2 _ R7.out.at_.f.lt (by have := hbw.out; omega)))
  have X8 := Lib.hid (X7.out.of (o.2 _ X7.out.at_.f.lt (by have := hbb.out; omega)))
  have h4 : j < 8 := by omega
  have q1 := fI_fv (1 + (j : Int))
  have q2 : Hid (Fv .f32 (floatOfInt .f32 (1 + (j : Int))) (some (fI (1 + (j : Int))))) := q1
  clear s o a1 a2 S7 T7 R7 X7
  have x0 := X8.out.at_.f.a; have x1 := X8.out.at_.f.r; have x2 := X8.out.at_.f.l; have x3 := X8.out.at_.t; have x4 := X8.out.at_.q
  have e0 := X8.out.free (o := 4)
  have n1 : w.heap.size ≠ bx := by have := hbw.out; have := hbb.out; omega
  have n2 : bx ≠ w.heap.size := fun h => n1 h.symm
  have r0 := R8.out.at_.f.a; have r1 := R8.out.at_.f.r; have r2 := R8.out.at_.f.l; have r3 := R8.out.at_.t; have r4 := R8.out.at_.q
  have f0 := fun o => R8.out.free (o := o)
  have NB := Lib.hid fun (a r l t q : Nat) => (show SquB (w8.setCell ⟨bx, 4, none⟩ (.float .f32 q)) w.heap.size 0 0 0 0 0 from R8.out.of (Go.Deep.blk_setCell_other _ _ _ _ n1)).set5 (a := a) (r := r) (l := l) (t := t) (q := q)
  have SS := Lib.hid fun (q : Nat) => T8.out.setCell (a := ⟨bx, 4, none⟩) (by have := hbw.out; have := hbb.out; show w.heap.size ≤ bx; omega) (.float .f32 q)
  go_wp2_with fail
  have NB := NB.out ra rb 0 rc (floatOfInt .f32 (1 + (j : Int)))
  have g0 := NB.at_.f.a; have g1 := NB.at_.f.r; have g2 := NB.at_.f.l; have g3 := NB.at_.t; have g4 := NB.at_.q
  have SS := Lib.hid (sinceSetQ (sinceSetQ (sinceSetQ (sinceSetQ (sinceSetQ (SS.out (floatOfInt .f32 (1 + (j : Int)))) 0 (.float .f32 ra)) 1 (.float .f32 rb)) 2 (.float .f32 0)) 3 (.float .f32 rc)) 4 (.float .f32 (floatOfInt .f32 (1 + (j : Int)))))
  generalize World.setCell _ _ _ = V at *
  exact bodyPost_ret (v := .agg #[.float .f32 ra, .float .f32 rb, .float .f32 0, .float .f32 rc, .float .f32 (floatOfInt .f32 (1 + (j : Int)))]) (by simp [results, Try.results6, go_sem, g0, g1, g2, g3, g4]) rfl ⟨i1, i2, i3, j, ⟨ra, rb, 0, rc, floatOfInt .f32 (1 + (j : Int))⟩, rfl, h1.out, h2.out, h3.out, h4, ⟨hrr1, hrr2, fv0, hrr3, q2⟩, SS.out⟩
end Go.Proofs.Ytagcepankiinpaa

/- Levels in two blocks; what is known of slots that hold levels and followers. -/
set_option linter.unusedVariables false
set_option linter.unusedSimpArgs false
namespace Go.Proofs.Ytagcepankiinpaa
open Fl Go.RowKit
theorem levO_like {D : Fol} {X Y : Nat → O} {n : Nat} (h : ∀ j, j < n → X j = Y j) : ∀ k, k ≤ n → levO D X k = levO D Y k
  | 0, _ => rfl
  | k + 1, hk => by
    show folO D.a D.r (levO D X k) (X k) = folO D.a D.r (levO D Y k) (Y k)
    rw [levO_like h k (by omega), h k (by omega)]
theorem levO_cut (D : Fol) (X : Nat → O) (a : Nat) : ∀ k, levO ⟨D.a, D.r, levO D X a⟩ (fun j => X (a + j)) k = levO D X (a + k)
  | 0 => rfl
  | k + 1 => by
    show folO D.a D.r (levO ⟨D.a, D.r, levO D X a⟩ (fun j => X (a + j)) k) (X (a + k)) = folO D.a D.r (levO D X (a + k)) (X (a + k))
    rw [levO_cut D X a k]
def PLFo (n0 : Nat) (f0 : Nat → O) (S : Fol) (w : World) (e : Ending) (w' : World) : Prop :=
  ∃ (g c : Nat) (xs : List Nat) (s : FolN), e = .returned (.tuple #[.slice (some ⟨g, 0, none⟩) n0 c, s.val, .bool true]) ∧ n0 ≤ c ∧ Gs 24 w' w.heap.size (some ⟨g, 0, none⟩) n0 xs ∧ (∀ j, j < n0 → ab .f32 (wd xs j) = f0 j) ∧ FvFol s S ∧ w.Since w.heap.size w'
set_option maxHeartbeats 4000000 in
set_option maxRecDepth 100000 in
theorem implFollowL_own (d : FolN) (D : Fol) (A : Option Addr) (n c : Nat) (xs : List Nat) (w : World) (hD : FvFol d D) (hA : Fs w w.heap.size A n xs) (hn : n ≤ 256) :
    Calls Try.prog 9 #[d.val, .slice A n c] w (PLFo n (fun k => levO D (fun k => ab .f32 (wd xs k)) (k + 1)) ⟨D.a, D.r, levO D (fun k => ab .f32 (wd xs k)) n⟩ w) := by
  obtain ⟨a, r, l⟩ := d
  obtain ⟨ha, hr, hl⟩ := hD
  simp only at ha hr hl
  have hfew : decide ((n : Int) ≤ 256) = true := decide_eq_true (by omega)
  have HA := Lib.hid hA
  clear hA
  simp only [FolN.val]
  go_enter Try.func9, Try.ntmps9
  go_wp2_with (first | (go_at_call 19; refine (implSamples_b _ _ _ _ _ hfew).mono ?_; rintro e w' ⟨rfl, rfl⟩) | fail)
  obtain ⟨W1, hW1⟩ : ∃ W, W = w.alloc (.cells #[.float .f32 a, .float .f32 r, .float .f32 l] 26) := ⟨_, rfl⟩
  obtain ⟨W2, hW2⟩ : ∃ W, W = W1.alloc (.cells #[.float .f32 0, .float .f32 0, .float .f32 0] 26) := ⟨_, rfl⟩
  have z1 : W1.heap.size = w.heap.size + 1 := by rw [hW1]; simp
  have z2 : Hid (W2.heap.size = w.heap.size + 1 + 1) := Lib.hid (by rw [hW2]; simp [z1])
  have f1 : FolB W1 w.heap.size a r l := by rw [hW1]; exact Go.Deep.blk_alloc_new _ _
  have f2 : FolB W2 (w.heap.size + 1) 0 0 0 := by rw [hW2, ← z1]; exact Go.Deep.blk_alloc_new _ _
  have f3 : FolB W2 w.heap.size a r l := f1.of (by rw [hW2]; exact blk_keep _ (by omega))
  have s2 : w.Since w.heap.size W2 := by rw [hW2, hW1]; exact ((World.Since.refl _ _).alloc (Nat.le_refl _) _).alloc (by simp) _
  rw [← hW1, ← hW2]
  clear hW1 hW2 z1 f1
  have F2 := Lib.hid f2; have F3 := Lib.hid f3; have S2 := Lib.hid s2; clear f2 f3 s2
  have hz2 := z2.out
  refine (results_at A n c xs 21 #[.pointer (some ⟨w.heap.size, 0, none⟩)] w.heap.size (fun k W => ∃ q, FolB W w.heap.size a r q ∧ FolB W (w.heap.size + 1) 0 0 0 ∧ Hid (Fv .f32 q (levO D (fun k => ab .f32 (wd xs k)) k))) (fun k => levO D (fun k => ab .f32 (wd xs k)) (k + 1)) W2 (HA.out.since S2.out) (by omega) hn (fun _ _ => rfl) ?hI ?hst ⟨l, F3.out, F2.out, hl⟩).mono ?_
  case hI =>
    rintro k W W' ⟨q, h1, h2, h3⟩ h4 h5 h6
    exact ⟨q, h1.of (h6 _ (by omega)), h2.of (h6 _ (by omega)), h3⟩
  case hst =>
    rintro k q W hk rfl ⟨q0, h1, h2, h3⟩ hs
    refine (implFollow_any w.heap.size a r q0 (wd xs k) D.a D.r _ _ W h1.at_ h1.free ha hr h3 (Lib.hid ⟨HA.out.2.1.at_ k, rfl⟩)).mono ?_
    rintro e W' ⟨q1, rfl, hq1, m, rfl⟩
    exact ⟨q1, rfl, hq1, ⟨q1, h1.set, h2.of (Go.Deep.blk_setCell_other _ _ _ _ (show w.heap.size + 1 ≠ w.heap.size by omega)), hq1⟩, ((On.refl _ _).set _ _).drewN _⟩
  rintro e w5 ⟨ys, rfl, hg, hare, ⟨q, h1, h2, h3⟩, ho⟩
  rw [hz2] at hg
  rw [hz2]
  have HG := Lib.hid hg; have HAA := Lib.hid hare; have HO := Lib.hid ho; have HF := Lib.hid h1; have HF2 := Lib.hid h2
  clear hg hare ho h1 h2 hz2
  have c1 := HF.out.at_.a
  have c2 := HF.out.at_.r
  have c3 := HF.out.at_.l
  have d1 := HF2.out.at_.a
  have d2 := HF2.out.at_.r
  have d3 := HF2.out.at_.l
  have e0 := fun o => HF2.out.free (o := o)
  go_wp2_with fail
  go_region
  all_goals
    have G9 : FolB _ (w.heap.size + 1) a r q := HF2.out.set3 (a := a) (r := r) (l := q)
    have S9 := (((S2.out.trans (HO.out.since (Nat.le_refl _))).setCell (a := ⟨w.heap.size + 1, 0, none⟩) (by simp) (.float .f32 a)).setCell (a := ⟨w.heap.size + 1, 1, none⟩) (by simp) (.float .f32 r)).setCell (a := ⟨w.heap.size + 1, 2, none⟩) (by simp) (.float .f32 q)
    have O9 : Gs 24 _ (w.heap.size + 1 + 1) _ n ys := HG.out.onLow (((On.refl (w.heap.size + 1) w5).set 0 (.float .f32 a)).set 1 (.float .f32 r) |>.set 2 (.float .f32 q)) (by omega)
    generalize World.setCell _ _ _ = W9 at *
    have g1 := G9.at_.a
    have g2 := G9.at_.r
    have g3 := G9.at_.l
    have S10 := Lib.hid S9; have O10 := Lib.hid O9; clear S9 O9 d1 d2 d3 c1 c2 c3 e0 G9
    go_wp2
    exact bodyPost_ret (v := .tuple #[.slice (some ⟨w.heap.size + 1 + 1, 0, none⟩) n n, .agg #[.float .f32 a, .float .f32 r, .float .f32 q], .bool true]) (by simp [results, Try.results9, go_sem, g1, g2, g3]) rfl
      ⟨w.heap.size + 1 + 1, n, ys, ⟨a, r, q⟩, rfl, Nat.le_refl _, O10.out.less (by omega), fun j hj => HAA.out j hj, ⟨ha, hr, h3⟩, (by exact since_drewN S10.out 1)⟩
namespace Lk
/-- a list of numbers in a block of its own -/
def loK (lo n0 : Nat) (f0 : Nat → O) : Kd where
  p := fun u S w => ∃ (g c : Nat) (xs : List Nat), u = .slice (some ⟨g, 0, none⟩) n0 c ∧ (∀ j, j < n0 → ab .f32 (wd xs j) = f0 j) ∧ EnK lo (fe (some ⟨g, 0, none⟩) n0 xs) S w
  stable := fun u S w w' h hp => by
    obtain ⟨g, c, xs, e, h1, hb⟩ := hp
    exact ⟨g, c, xs, e, h1, hb.keep h⟩
  bx := false
/-- .. with a follower and a yes -/
def lfK (lo n0 : Nat) (f0 : Nat → O) (D : Fol) : Kd where
  p := fun u S w => ∃ (g c : Nat) (xs : List Nat) (s : FolN), u = .tuple #[.slice (some ⟨g, 0, none⟩) n0 c, .agg #[.float .f32 s.a, .float .f32 s.r, .float .f32 s.l], .bool true] ∧ (∀ j, j < n0 → ab .f32 (wd xs j) = f0 j) ∧ FvFol s D ∧ EnK lo (fe (some ⟨g, 0, none⟩) n0 xs) S w
  stable := fun u S w w' h hp => by
    obtain ⟨g, c, xs, s, e, h1, h2, hb⟩ := hp
    exact ⟨g, c, xs, s, e, h1, h2, hb.keep h⟩
  bx := false
def flK (D : Fol) : Kd where
  p := fun u S w => ∃ s : FolN, u = .agg #[.float .f32 s.a, .float .f32 s.r, .float .f32 s.l] ∧ FvFol s D
  stable := fun u S w w' h hp => hp
  bx := false
def isFol (D : Fol) (cs : List Value) : Prop := ∃ a b c : Nat, cs = [a, b, c].map (fun x => Value.float .f32 x) ∧ FvFol ⟨a, b, c⟩ D
theorem lf_of {lo n0 : Nat} {f0 : Nat → O} {D : Fol} {w w' : World} {e : Ending} (hl : lo ≤ w.heap.size) (h : PLFo n0 f0 D w e w') : ∃ u S, e = .returned u ∧ nb u ∧ (lfK lo n0 f0 D).p u S w' ∧ w.Since w.heap.size w' ∧ ∀ g, S g → w.heap.size ≤ g ∧ g < w'.heap.size := by
  obtain ⟨g, c, xs, s, rfl, h1, h2, h3, h4, h5⟩ := h
  have hg := h2.toE
  exact ⟨_, (fe (some ⟨g, 0, none⟩) n0 xs).S, rfl, trivial, ⟨g, c, xs, s, rfl, h3, h4, EnK.of hg hl⟩, h5, hg.2.2⟩
end Lk
theorem fs_cell0L {w : World} {B n g k : Nat} {xs : List Nat} (h : Fs w B (some ⟨g, 0, none⟩) n xs) (hk : k < n) : w.cell? ⟨g, k, none⟩ = some (.float .f32 (wd xs k)) ∧ g < B := by
  obtain ⟨g', off, e, hg, hc⟩ := h.2.2 (by omega)
  injection e with e
  injection e with e1 e2 _
  subst e1; subst e2
  have := hc k hk
  rw [Nat.zero_add] at this
  exact ⟨this, hg⟩
theorem same_anyL (a b : Nat) (X : O) (w : World) (ha : Hid (Fv .f32 a X)) (hb : Hid (Fv .f32 b X)) : Calls Try.prog 12 #[.float .f32 a, .float .f32 b] w fun e w' => e = .returned (.bool true) ∧ w = w' :=
  (implSame_any a b w ha.out.1 hb.out.1).mono fun e w' ⟨h1, h2⟩ => ⟨by rw [h1, ha.out.2, hb.out.2, decide_eq_true rfl], h2⟩
theorem nn_ord0 {c x : Nat} (hx : Nn c x) : (rung .f32 x = 0 ∧ FloatKind.f32.format.order x 0 = some .eq) ∨ FloatKind.f32.format.order x 0 = some .gt := by
  have n0 : Nn 0 0 := ⟨by decide, by show rung .f32 0 < _; decide, by decide, by decide⟩
  have e0 : rung .f32 0 = 0 := by decide
  rw [order_key .f32 (fin_abK hx.fin) (fin_abK n0.fin)]
  unfold key
  rw [hx.sgn, n0.sgn]
  show (rung .f32 x = 0 ∧ some (compare (rung .f32 x : Int) (rung .f32 0 : Int)) = some .eq) ∨ some (compare (rung .f32 x : Int) (rung .f32 0 : Int)) = some .gt
  rw [e0, cmp_def, if_neg (by omega)]
  by_cases h : rung .f32 x = 0
  · left; rw [h]; exact ⟨rfl, by simp⟩
  · right; rw [if_neg (by omega)]
theorem SquB.row {w : World} {g a r l t q : Nat} (h : SquB w g a r l t q) : w.rangeAt g 0 [.float .f32 a, .float .f32 r, .float .f32 l] := by
  intro j x hj
  rw [Nat.zero_add]
  have h0 := h.at_.f.a; have h1 := h.at_.f.r; have h2 := h.at_.f.l
  match j, hj with
  | 0, hj => injection hj with hj; rw [← hj]; exact h0
  | 1, hj => injection hj with hj; rw [← hj]; exact h1
  | 2, hj => injection hj with hj; rw [← hj]; exact h2
  | _ + 3, hj => cases hj
theorem FolB.row {w : World} {g a r l : Nat} (h : FolB w g a r l) : w.rangeAt g 0 [.float .f32 a, .float .f32 r, .float .f32 l] := by
  intro j x hj
  rw [Nat.zero_add]
  have h0 := h.at_.a; have h1 := h.at_.r; have h2 := h.at_.l
  match j, hj with
  | 0, hj => injection hj with hj; rw [← hj]; exact h0
  | 1, hj => injection hj with hj; rw [← hj]; exact h1
  | 2, hj => injection hj with hj; rw [← hj]; exact h2
  | _ + 3, hj => cases hj
end Go.Proofs.Ytagcepankiinpaa

/- An append of a whole list, as one step of a region that draws its order. -/
set_option linter.unusedVariables false
set_option linter.unusedSimpArgs false
namespace Go.Proofs.Ytagcepankiinpaa
open Fl Go.RowKit
set_option maxRecDepth 100000 in
theorem step_appN {ops : Array Oper} {o : Oper} {a : Act} {w : World} {K : Act → World → Prop} {Q : Exit → Act → World → Prop} {E : Prop} (hw : Region.wanted o (yielded ops a.tmps) = true) (s x : Operand)
    (ho : o.op = .call { callee := .builtin .append, args := #[s, x], argTypes := #[30, 30] }) (lo : Nat) (v : Value) (k : Nat) (F : Nat → O) (hs : a.eval s = v) (ad : Addr) (m c : Nat) (xs : List Nat) (B : Nat)
    (hx : a.eval x = .slice (some ad) m c) (hA : Hid (Fs w B (some ad) m xs)) (hF : ∀ j, j < m → F (k + j) = ab .f32 (wd xs j)) (hk : k + m ≤ 1048576) (hlo : lo ≤ w.heap.size) (hR : Rw lo w v k F)
    (h : ∀ v' w', Hid (Rw lo w' v' (k + m) F) → Hid (w.Since lo w') → K (a.put o.dst v') w') : if Region.wanted o (yielded ops a.tmps) = true then Oper.wp Try.prog o a w K Q else E := by
  obtain ⟨os, h1, h2, h3⟩ := hR
  obtain ⟨i0, hi, hz0, hz1, hz2⟩ := info_parts Try.infoF
  have HA := hA.out
  rw [if_pos hw]
  refine wp_append_own (P := Try.prog) w s x 30 ho lo 24 i0 (.float .f32 0) 1 4 Try.underlying30 hi hz0 hz1 hz2 rfl (by omega) v k (fvl os) hs h1 ad m c (fvl xs) hx ?_ ?_ ?_ ?_ ?_ hlo ?_
  · rw [fvl, List.length_map, HA.1, Nat.mul_one]
  · intro j u hj
    have hlt : j < m := by
      have := (List.getElem?_eq_some_iff.1 hj).1
      rw [fvl, List.length_map, HA.1] at this; exact this
    obtain ⟨g, off, e, _, hc⟩ := HA.2.2 (by omega)
    injection e with e
    subst e
    have := hc j hlt
    rw [show (Addr.mk g off none).add j = ⟨g, off + j, none⟩ by simp [Addr.add], this]
    rw [← hj]
    unfold fvl fv wd
    simp [List.getD_eq_getElem?_getD, List.getElem?_eq_getElem (show j < xs.length by rw [HA.1]; exact hlt)]
  · intro u hu
    obtain ⟨x, _, rfl⟩ := List.mem_map.1 hu
    rfl
  · unfold maxLen; omega
  · omega
  · intro v' w' hown hg _
    have hyl : os.length = k := by simpa [fvl] using h1.1
    refine h v' w' (Lib.hid ⟨os ++ xs, ?_, fun x hx => ?_, fun j hj => ?_⟩) (Lib.hid ⟨hg.os, hg.tape, hg.output, hg.size, fun i hi => ?_⟩)
    · rw [← fvl_app]; exact hown
    · rcases List.mem_append.1 hx with h4 | h4
      · exact h2 x h4
      · exact HA.2.1 x h4
    · rw [wd_app, hyl]
      by_cases e : j < k
      · rw [if_pos e]; exact h3 j e
      · rw [if_neg e, ← hF (j - k) (by omega)]; congr 1; omega
    · refine hg.block i (by omega) fun e => ?_
      have := own_lo h1 i e.symm
      omega
end Go.Proofs.Ytagcepankiinpaa

/- The law of levels. -/
set_option linter.unusedVariables false
set_option linter.unusedSimpArgs false
namespace Go.Proofs.Ytagcepankiinpaa
open Fl Go.RowKit
set_option maxHeartbeats 32000000 in
set_option maxRecDepth 100000 in
theorem lawLevels_any (A : Option Addr) (n c : Nat) (xs : List Int) (B : Option Addr) (m d : Nat) (ys : List Int) (w : World) (hA : Bs w w.heap.size A n xs) (hB : Bs w w.heap.size B m ys) :
    Calls Try.prog 3 #[.slice A n c, .slice B m d] w fun e w' => e = .returned (.bool true) ∧ w.Since w.heap.size w' := by
  have HA := Lib.hid hA; have HB := Lib.hid hB; clear hA hB
  cases hl : (decide ((48 : Int) < n) || decide ((48 : Int) < m))
  case true =>
    go_enter Try.func3, Try.ntmps3
    go_wp2_with fail
    refine (r8Long_any A B n c m d true w hl).mono ?_
    rintro e w1 ⟨rfl, hs⟩
    have S1 := Lib.hid hs; clear hs
    go_wp2
    go_ret
    exact ⟨rfl, S1.out⟩
  case false =>
    have hnm : n ≤ 48 ∧ m ≤ 48 := by simp only [Bool.or_eq_false_iff, decide_eq_false_iff_not] at hl; omega
    go_enter Try.func3, Try.ntmps3
    go_wp2_with fail
    refine (r8Long_any A B n c m d false w hl).mono ?_
    rintro e w1 ⟨rfl, hs⟩
    have S1 := Lib.hid hs; clear hs hl
    go_wp2_with fail
    refine (r8Squeeze_any A n c xs w1 ((HA.out.since S1.out (Nat.le_refl _)).more S1.out.size) (by omega)).mono ?_
    rintro e w2 ⟨i1, i2, i3, i4, ⟨a, r, l, t, q⟩, rfl, h1, h2, h3, h4, hD, hs⟩
    have H1 := Lib.hid h1; have H2 := Lib.hid h2; have HD0 := Lib.hid hD
    have S2 := Lib.hid (since_step S1.out hs); clear hs h1 h2 h3 h4 hD S1
    simp only [SquN.val]
    go_wp2_with fail
    generalize hW : World.alloc w2 _ = W2
    obtain ⟨bx, hbx⟩ : ∃ q, Hid (q = w2.heap.size) := ⟨_, Lib.hid rfl⟩
    have S3 : Hid (w.Since w.heap.size W2) := Lib.hid (by rw [← hW]; exact S2.out.alloc S2.out.size _)
    have X3 : Hid (SquB W2 bx a r l t q) := Lib.hid (by rw [← hW, hbx.out]; exact SquB.new _ _ _ _ _ _)
    rw [← hbx.out]; clear hW S2 hbx
    refine (plainsW_any B m d ys 12 W2 ((HB.out.since S3.out (Nat.le_refl _)).more S3.out.size) (by omega) (by omega)).mono ?_
    rintro e w3 ⟨g, cp, zs, rfl, hcp, hg, hpl, hs⟩
    have G4 := Lib.hid hg.read
    have S4 := Lib.hid (since_step S3.out hs); have X4 := Lib.hid (X3.out.of (hs.block _ X3.out.at_.f.lt))
    clear hs hg S3 X3
    go_wp2_with fail
    refine (r8At_any A n c xs 40 13 w3 ((HA.out.since S4.out (Nat.le_refl _)).more S4.out.size) (by omega) (by omega)).mono ?_
    rintro e w4 ⟨at_, rfl, e1, e2, hs⟩
    have e3 := e2 (by omega)
    obtain ⟨n2, rfl⟩ := Int.eq_ofNat_of_zero_le e1
    have ha : n2 ≤ 12 := by omega
    have S5 := Lib.hid (since_step S4.out hs); have G5 := Lib.hid ((G4.out.since hs).more hs.size); have X5 := Lib.hid (X4.out.of (hs.block _ X4.out.at_.f.lt))
    clear hs e1 e2 e3 S4 G4 X4
    as_aux_lemma =>
      obtain ⟨Z, hZ⟩ : ∃ Z : Nat → O, Hid (Z = fun j => ab .f32 (wd zs j)) := ⟨_, Lib.hid rfl⟩
      obtain ⟨D, hDD⟩ : ∃ D : Fol, Hid (D = ⟨some (tW i1), some (tW i2), some 0⟩) := ⟨_, Lib.hid rfl⟩
      have HD : Hid (FvFol ⟨a, r, l⟩ D) := Lib.hid (by rw [hDD.out]; exact ⟨HD0.out.a, HD0.out.r, HD0.out.l⟩)
      clear HD0
      obtain ⟨Y, hY⟩ : ∃ Y : Nat → O, Hid (Y = fun k => levO D Z (k + 1)) := ⟨_, Lib.hid rfl⟩
      have K1 := Lib.hid (show Calls Try.prog 9 #[.agg #[.float .f32 a, .float .f32 r, .float .f32 l], .slice (some ⟨g, 0, none⟩) 12 cp] w4 (PLFo 12 Y ⟨D.a, D.r, levO D Z 12⟩ w4) from by
        rw [hY.out, hZ.out]; exact implFollowL_own ⟨a, r, l⟩ D (some ⟨g, 0, none⟩) 12 cp zs w4 HD.out G5.out (by omega))
      have x0 := X5.out.at_.f.a; have x1 := X5.out.at_.f.r; have x2 := X5.out.at_.f.l
      go_wp2_with fail
      refine K1.out.mono ?_
      rintro e w5 ⟨g1, c1, o1, ⟨a1, r1, l1⟩, rfl, hc1, hg1, hf1, hv1, hs⟩
      have S6 := Lib.hid (since_step S5.out hs); have G6 := Lib.hid ((G5.out.since hs).more hs.size); have X6 := Lib.hid (X5.out.of (hs.block _ X5.out.at_.f.lt))
      have P6 := Lib.hid hg1.read; have F1 := Lib.hid hf1; have V1 := Lib.hid hv1
      clear hs hg1 hf1 hv1 K1 S5 G5 X5 x0 x1 x2
      simp only [FolN.val]
      go_wp2_with fail
      generalize hW : World.alloc w5 _ = W6
      obtain ⟨b1, hb1⟩ : ∃ q, Hid (q = w5.heap.size) := ⟨_, Lib.hid rfl⟩
      have hs : w5.Since w5.heap.size W6 := by rw [← hW]; exact (World.Since.refl _ _).alloc (Nat.le_refl _) _
      have E7 : Hid (FolB W6 b1 a1 r1 l1) := Lib.hid (by rw [← hW, hb1.out]; exact Go.Deep.blk_alloc_new _ _)
      have S7 := Lib.hid (since_step S6.out hs); have G7 := Lib.hid ((G6.out.since hs).more hs.size); have X7 := Lib.hid (X6.out.of (hs.block _ X6.out.at_.f.lt)); have P7 := Lib.hid ((P6.out.since hs).more hs.size)
      rw [← hb1.out]
      clear hW hs hb1 S6 G6 X6 P6
      obtain ⟨DA, hDA⟩ : ∃ X : Fol, Hid (X = ⟨D.a, D.r, levO D Z n2⟩) := ⟨_, Lib.hid rfl⟩
      have l1' : ∀ j, j < n2 → (fun j => ab .f32 (wd (zs.take n2) j)) j = Z j := fun j hj => by rw [hZ.out]; simp only; rw [wd_take _ _ _ hj]
      have l2' : (fun j => ab .f32 (wd (zs.drop n2) j)) = fun j => Z (n2 + j) := by rw [hZ.out]; funext j; simp only; rw [wd_drop]
      have K2 := Lib.hid fun (v : World) (hv : W6.Since W6.heap.size v) => show Calls Try.prog 9 #[.agg #[.float .f32 a, .float .f32 r, .float .f32 l], .slice (some ⟨g, 0, none⟩) n2 cp] v (PLFo n2 Y DA v) from by
        have h := implFollowL_own ⟨a, r, l⟩ D (some ⟨g, 0, none⟩) n2 cp (zs.take n2) v HD.out (Fs.head ((G7.out.since hv).more hv.size) ha) (by omega)
        rw [levO_like l1' n2 (Nat.le_refl _), ← hDA.out] at h
        refine h.mono ?_
        rintro e w' ⟨g', c', xs', s', h1, h2, h3, h4, h5⟩
        exact ⟨g', c', xs', s', h1, h2, h3, fun j hj => (h4 j hj).trans (by rw [hY.out]; exact levO_like l1' (j + 1) (by omega)), h5⟩
      go_wp2_with fail
      refine Lk.wp_k (by kernel_rfl) (by kernel_rfl) (by kernel_rfl) ?_
      repeat (first
        | (refine Lk.sRow rfl rfl rfl rfl 26 _ rfl (bx) 0 rfl [.float .f32 a, .float .f32 r, .float .f32 l] _ Try.underlying26 rfl (by kernel_rfl) (fun v hv => Lo.range_since X7.out.row hv X7.out.at_.f.lt) ?_; (try simp only [Act.eval, Act.put, Lk.Va.val, Lk.Va.kd, List.setIfInBounds_toArray, List.set_cons_succ, List.set_cons_zero, Array.getD_eq_getD_getElem?, List.getElem?_toArray, List.getElem?_cons_succ, List.getElem?_cons_zero, Option.getD_some]))
        | (refine Lk.sCallK rfl rfl (of_decide_eq_true rfl) 9 [.tmp _, .tmp _] _ rfl (callsEnter 9 Try.f9 _ (by kernel_rfl) (by kernel_rfl) rfl) rfl [.agg #[.float .f32 a, .float .f32 r, .float .f32 l], .slice (some ⟨g, 0, none⟩) n2 cp] rfl (Lk.lfK W6.heap.size (n2) (Y) (DA)) rfl (fun v hv hN => (K2.out v hv).mono fun e v' h => Lk.lf_of hN h) ?_; (try simp only [Act.eval, Act.put, Lk.Va.val, Lk.Va.kd, List.setIfInBounds_toArray, List.set_cons_succ, List.set_cons_zero, Array.getD_eq_getD_getElem?, List.getElem?_toArray, List.getElem?_cons_succ, List.getElem?_cons_zero, Option.getD_some]))
        | (refine Lk.sExtract rfl rfl (of_decide_eq_true rfl) 37 0 rfl (Lk.lfK W6.heap.size (n2) (Y) (DA)) (Lk.loK W6.heap.size (n2) (Y)) rfl rfl rfl (fun u S w ⟨g', c', x', s', e, h1, h2, h3⟩ => ⟨_, _, e, rfl, trivial, g', c', x', rfl, h1, h3⟩) ?_; (try simp only [Act.eval, Act.put, Lk.Va.val, Lk.Va.kd, List.setIfInBounds_toArray, List.set_cons_succ, List.set_cons_zero, Array.getD_eq_getD_getElem?, List.getElem?_toArray, List.getElem?_cons_succ, List.getElem?_cons_zero, Option.getD_some]))
        | (refine Lk.sExtract rfl rfl (of_decide_eq_true rfl) 37 1 rfl (Lk.lfK W6.heap.size (n2) (Y) (DA)) (Lk.flK (DA)) rfl rfl rfl (fun u S w ⟨g', c', x', s', e, h1, h2, h3⟩ => ⟨_, _, e, rfl, trivial, s', rfl, h2⟩) ?_; (try simp only [Act.eval, Act.put, Lk.Va.val, Lk.Va.kd, List.setIfInBounds_toArray, List.set_cons_succ, List.set_cons_zero, Array.getD_eq_getD_getElem?, List.getElem?_toArray, List.getElem?_cons_succ, List.getElem?_cons_zero, Option.getD_some]))
        | (refine Lk.sExtractV rfl rfl rfl 37 2 rfl (Lk.lfK W6.heap.size (n2) (Y) (DA)) rfl (.bool true) (fun u S w ⟨g', c', x', s', e, h1, h2, h3⟩ => ⟨_, e, rfl⟩) ?_; (try simp only [Act.eval, Act.put, Lk.Va.val, Lk.Va.kd, List.setIfInBounds_toArray, List.set_cons_succ, List.set_cons_zero, Array.getD_eq_getD_getElem?, List.getElem?_toArray, List.getElem?_cons_succ, List.getElem?_cons_zero, Option.getD_some]))
        | (refine Lk.sAlloc rfl rfl (of_decide_eq_true rfl) 26 rfl 26 [.float .f32 0, .float .f32 0, .float .f32 0] (fun v => by go_simp) ?_; (try simp only [Act.eval, Act.put, Lk.Va.val, Lk.Va.kd, List.setIfInBounds_toArray, List.set_cons_succ, List.set_cons_zero, Array.getD_eq_getD_getElem?, List.getElem?_toArray, List.getElem?_cons_succ, List.getElem?_cons_zero, Option.getD_some]))
        | (refine Lk.sStoreK rfl 26 12 45 rfl rfl 26 (· = _) (Lk.isFol (DA)) rfl (Lk.flK (DA)) rfl 3 (fun cs h => by rw [h]; rfl) (by kernel_rfl) (fun u S w ⟨s', e, h⟩ => ⟨_, e, rfl, ⟨s'.a, s'.r, s'.l, rfl, h⟩, by simp [Value.oneCell']⟩) ?_; (try simp only [Act.eval, Act.put, Lk.Va.val, Lk.Va.kd, List.setIfInBounds_toArray, List.set_cons_succ, List.set_cons_zero, Array.getD_eq_getD_getElem?, List.getElem?_toArray, List.getElem?_cons_succ, List.getElem?_cons_zero, Option.getD_some]))
        | (refine Lk.sMove rfl rfl rfl rfl _ (.inl rfl) ?_; simp only [Act.eval, Act.put, Lk.Va.val, Lk.Va.kd, List.setIfInBounds_toArray, List.set_cons_succ, List.set_cons_zero, Array.getD_eq_getD_getElem?, List.getElem?_toArray, List.getElem?_cons_succ, List.getElem?_cons_zero, Option.getD_some])
        | (refine Lk.sMove rfl rfl rfl rfl _ (.inr rfl) ?_; simp only [Act.eval, Act.put, Lk.Va.val, Lk.Va.kd, List.setIfInBounds_toArray, List.set_cons_succ, List.set_cons_zero, Array.getD_eq_getD_getElem?, List.getElem?_toArray, List.getElem?_cons_succ, List.getElem?_cons_zero, Option.getD_some])
        | (refine Lk.sCopy rfl rfl (of_decide_eq_true rfl) _ (.inl rfl) _ rfl rfl ?_; simp only [Act.eval, Act.put, Lk.Va.val, Lk.Va.kd, List.setIfInBounds_toArray, List.set_cons_succ, List.set_cons_zero, Array.getD_eq_getD_getElem?, List.getElem?_toArray, List.getElem?_cons_succ, List.getElem?_cons_zero, Option.getD_some])
        | (refine Lk.sCopy rfl rfl (of_decide_eq_true rfl) _ (.inr rfl) _ rfl rfl ?_; simp only [Act.eval, Act.put, Lk.Va.val, Lk.Va.kd, List.setIfInBounds_toArray, List.set_cons_succ, List.set_cons_zero, Array.getD_eq_getD_getElem?, List.getElem?_toArray, List.getElem?_cons_succ, List.getElem?_cons_zero, Option.getD_some])
        | (refine Lk.sQuiet rfl rfl rfl rfl rfl (fun K hK => ?_); go_big_quiet_op; first | (with_reducible refine ⟨_, fun _ _ => rfl, hK _ ?_⟩; clear hK K) | (refine hK _ ?_; clear hK K)))
      refine Lk.wpK_nil ?_
      refine Lk.After.slot 11 _ rfl ?_; intro u11 _; simp only [Act.eval, Act.put, Lk.Va.val, Lk.Va.kd, List.setIfInBounds_toArray, List.set_cons_succ, List.set_cons_zero, Array.getD_eq_getD_getElem?, List.getElem?_toArray, List.getElem?_cons_succ, List.getElem?_cons_zero, Option.getD_some]
      refine Lk.After.slot 12 _ rfl ?_; intro u12 _; simp only [Act.eval, Act.put, Lk.Va.val, Lk.Va.kd, List.setIfInBounds_toArray, List.set_cons_succ, List.set_cons_zero, Array.getD_eq_getD_getElem?, List.getElem?_toArray, List.getElem?_cons_succ, List.getElem?_cons_zero, Option.getD_some]
      refine Lk.After.slot 43 _ rfl ?_; intro u43 _; simp only [Act.eval, Act.put, Lk.Va.val, Lk.Va.kd, List.setIfInBounds_toArray, List.set_cons_succ, List.set_cons_zero, Array.getD_eq_getD_getElem?, List.getElem?_toArray, List.getElem?_cons_succ, List.getElem?_cons_zero, Option.getD_some]
      refine Lk.After.slot 37 _ rfl ?_; intro u37 _; simp only [Act.eval, Act.put, Lk.Va.val, Lk.Va.kd, List.setIfInBounds_toArray, List.set_cons_succ, List.set_cons_zero, Array.getD_eq_getD_getElem?, List.getElem?_toArray, List.getElem?_cons_succ, List.getElem?_cons_zero, Option.getD_some]
      refine Lk.After.slot 45 _ rfl ?_; intro u45 _; simp only [Act.eval, Act.put, Lk.Va.val, Lk.Va.kd, List.setIfInBounds_toArray, List.set_cons_succ, List.set_cons_zero, Array.getD_eq_getD_getElem?, List.getElem?_toArray, List.getElem?_cons_succ, List.getElem?_cons_zero, Option.getD_some]
      refine Lk.After.slot 44 _ rfl ?_; intro u44 _; simp only [Act.eval, Act.put, Lk.Va.val, Lk.Va.kd, List.setIfInBounds_toArray, List.set_cons_succ, List.set_cons_zero, Array.getD_eq_getD_getElem?, List.getElem?_toArray, List.getElem?_cons_succ, List.getElem?_cons_zero, Option.getD_some]
      refine Lk.After.end_ [11, 12, 43, 37, 45, 44] (by repeat (first | exact Lk.nbut.start | refine Lk.nbut.upd (by simp) ?_)) rfl ?_
      intro fpK wK hwK
      intro hK44 hB44 hX44
      intro hK45 hB45 hX45
      intro hK37 hB37 hX37
      intro hK43 hB43 hX43
      intro hK12 hB12 hX12
      intro hK11 hB11 hX11
      obtain ⟨g2, c2, o2, rfl, hf2, he2⟩ := hK11
      obtain ⟨b2, cb, rfl, ⟨a2, r2, l2, rfl, hv2⟩, hSb, hGb⟩ := Lk.box_ge hK12 hB12 (hX12 rfl)
      have XB : Hid (FolB wK b2 a2 r2 l2) := Lib.hid hGb.1
      have HX := Lib.hid hv2
      have F2 : Hid (∀ j, j < n2 → ab .f32 (wd o2 j) = Y j) := Lib.hid hf2
      have Q9 : Hid (Fs wK wK.heap.size (some ⟨g2, 0, none⟩) n2 o2) := Lib.hid (he2.ge hB11).readF
      have S10 := Lib.hid (since_step S7.out hwK); have G10 := Lib.hid ((G7.out.since hwK).more hwK.size); have P10 := Lib.hid ((P7.out.since hwK).more hwK.size); have E10 := Lib.hid (E7.out.of (hwK.block _ E7.out.at_.lt))
      clear S7 G7 P7 X7 E7 hK43 hB43 hX43 hK37 hB37 hX37 hK45 hB45 hX45 hK44 hB44 hX44 hB11 hX11 hK12 hB12 hX12 hSb hGb hv2 hf2 he2 hwK K2
      clear fpK
      obtain ⟨v10, hV⟩ : ∃ v, v = wK := ⟨_, rfl⟩
      rw [← hV] at S10 G10 P10 E10 XB Q9 ⊢
      clear hV wK
      as_aux_lemma =>
        obtain ⟨m3, hm0⟩ : ∃ m3, n2 + m3 = 12 := ⟨12 - n2, by omega⟩
        have hm3 := Lib.hid hm0
        have hm4 : Hid (12 - n2 = m3) := Lib.hid (by omega)
        clear hm0
        have K3 := Lib.hid fun (v : World) (A' : Option Addr) (c' : Nat) (hA' : A' = some ⟨g, n2, none⟩ ∨ m3 = 0) (hv : v10.Since v10.heap.size v) => show Calls Try.prog 9 #[.agg #[.float .f32 a2, .float .f32 r2, .float .f32 l2], .slice A' (12 - n2) c'] v (PLFo m3 (fun j => Y (n2 + j)) ⟨D.a, D.r, levO D Z 12⟩ v) from by
          have hG := (G10.out.since hv).more hv.size
          rw [hm4.out]
          have hf : Fs v v.heap.size A' m3 (zs.drop n2) := by
            have h9 := Fs.tail0 hG ha
            rw [hm4.out] at h9
            rcases hA' with rfl | h0
            · exact h9
            · exact ⟨h9.1, h9.2.1, fun h => by omega⟩
          have h := implFollowL_own ⟨a2, r2, l2⟩ DA A' m3 c' (zs.drop n2) v HX.out hf (by have := hm3.out; omega)
          rw [l2', hDA.out, levO_cut, hm3.out] at h
          refine h.mono ?_
          rintro e w' ⟨g', c', xs', s', h1, h2, h3, h4, h5⟩
          exact ⟨g', c', xs', s', h1, h2, h3, fun j hj => (h4 j hj).trans (by rw [hY.out]; exact levO_cut D Z n2 (j + 1)), h5⟩
        clear l1' l2'
        go_wp2_with fail
        rcases Decidable.em (cp = n2) with hca | hca
        case' inl =>
          have hna := Lib.hid (show 12 - n2 = 0 by omega)
          have K4 := Lib.hid fun (v : World) (hv : v10.Since v10.heap.size v) => show Calls Try.prog 9 #[.agg #[.float .f32 a2, .float .f32 r2, .float .f32 l2], .slice (some ⟨g, 0, none⟩) 0 0] v (PLFo m3 (fun j => Y (n2 + j)) ⟨D.a, D.r, levO D Z 12⟩ v) from by
            have h := K3.out v (some ⟨g, 0, none⟩) 0 (.inr (by have := hna.out; have := hm4.out; omega)) hv
            rw [hna.out] at h
            exact h
          subst cp
          refine Lk.wp_k (by kernel_rfl) (by kernel_rfl) (by kernel_rfl) ?_
          repeat (first
            | (refine Lk.sRow rfl rfl rfl rfl 26 _ rfl (b2) 0 rfl [.float .f32 a2, .float .f32 r2, .float .f32 l2] _ Try.underlying26 rfl (by kernel_rfl) (fun v hv => Lo.range_since XB.out.row hv XB.out.at_.lt) ?_; (try simp only [Act.eval, Act.put, Lk.Va.val, Lk.Va.kd, List.setIfInBounds_toArray, List.set_cons_succ, List.set_cons_zero, Array.getD_eq_getD_getElem?, List.getElem?_toArray, List.getElem?_cons_succ, List.getElem?_cons_zero, Option.getD_some]))
            | (refine Lk.sCallK rfl rfl (of_decide_eq_true rfl) 9 [.tmp _, .tmp _] _ rfl (callsEnter 9 Try.f9 _ (by kernel_rfl) (by kernel_rfl) rfl) rfl [.agg #[.float .f32 a2, .float .f32 r2, .float .f32 l2], .slice (some ⟨g, 0, none⟩) 0 0] rfl (Lk.lfK v10.heap.size (m3) (fun j => Y (n2 + j)) (⟨D.a, D.r, levO D Z 12⟩)) rfl (fun v hv hN => (K4.out v hv).mono fun e v' h => Lk.lf_of hN h) ?_; (try simp only [Act.eval, Act.put, Lk.Va.val, Lk.Va.kd, List.setIfInBounds_toArray, List.set_cons_succ, List.set_cons_zero, Array.getD_eq_getD_getElem?, List.getElem?_toArray, List.getElem?_cons_succ, List.getElem?_cons_zero, Option.getD_some]))
            | (refine Lk.sExtract rfl rfl (of_decide_eq_true rfl) 47 0 rfl (Lk.lfK v10.heap.size (m3) (fun j => Y (n2 + j)) (⟨D.a, D.r, levO D Z 12⟩)) (Lk.loK v10.heap.size (m3) (fun j => Y (n2 + j))) rfl rfl rfl (fun u S w ⟨g', c', x', s', e, h1, h2, h3⟩ => ⟨_, _, e, rfl, trivial, g', c', x', rfl, h1, h3⟩) ?_; (try simp only [Act.eval, Act.put, Lk.Va.val, Lk.Va.kd, List.setIfInBounds_toArray, List.set_cons_succ, List.set_cons_zero, Array.getD_eq_getD_getElem?, List.getElem?_toArray, List.getElem?_cons_succ, List.getElem?_cons_zero, Option.getD_some]))
            | (refine Lk.sExtract rfl rfl (of_decide_eq_true rfl) 47 1 rfl (Lk.lfK v10.heap.size (m3) (fun j => Y (n2 + j)) (⟨D.a, D.r, levO D Z 12⟩)) (Lk.flK (⟨D.a, D.r, levO D Z 12⟩)) rfl rfl rfl (fun u S w ⟨g', c', x', s', e, h1, h2, h3⟩ => ⟨_, _, e, rfl, trivial, s', rfl, h2⟩) ?_; (try simp only [Act.eval, Act.put, Lk.Va.val, Lk.Va.kd, List.setIfInBounds_toArray, List.set_cons_succ, List.set_cons_zero, Array.getD_eq_getD_getElem?, List.getElem?_toArray, List.getElem?_cons_succ, List.getElem?_cons_zero, Option.getD_some]))
            | (refine Lk.sExtractV rfl rfl rfl 47 2 rfl (Lk.lfK v10.heap.size (m3) (fun j => Y (n2 + j)) (⟨D.a, D.r, levO D Z 12⟩)) rfl (.bool true) (fun u S w ⟨g', c', x', s', e, h1, h2, h3⟩ => ⟨_, e, rfl⟩) ?_; (try simp only [Act.eval, Act.put, Lk.Va.val, Lk.Va.kd, List.setIfInBounds_toArray, List.set_cons_succ, List.set_cons_zero, Array.getD_eq_getD_getElem?, List.getElem?_toArray, List.getElem?_cons_succ, List.getElem?_cons_zero, Option.getD_some]))
            | (refine Lk.sAlloc rfl rfl (of_decide_eq_true rfl) 26 rfl 26 [.float .f32 0, .float .f32 0, .float .f32 0] (fun v => by go_simp) ?_; (try simp only [Act.eval, Act.put, Lk.Va.val, Lk.Va.kd, List.setIfInBounds_toArray, List.set_cons_succ, List.set_cons_zero, Array.getD_eq_getD_getElem?, List.getElem?_toArray, List.getElem?_cons_succ, List.getElem?_cons_zero, Option.getD_some]))
            | (refine Lk.sStoreK rfl 26 15 54 rfl rfl 26 (· = _) (Lk.isFol (⟨D.a, D.r, levO D Z 12⟩)) rfl (Lk.flK (⟨D.a, D.r, levO D Z 12⟩)) rfl 3 (fun cs h => by rw [h]; rfl) (by kernel_rfl) (fun u S w ⟨s', e, h⟩ => ⟨_, e, rfl, ⟨s'.a, s'.r, s'.l, rfl, h⟩, by simp [Value.oneCell']⟩) ?_; (try simp only [Act.eval, Act.put, Lk.Va.val, Lk.Va.kd, List.setIfInBounds_toArray, List.set_cons_succ, List.set_cons_zero, Array.getD_eq_getD_getElem?, List.getElem?_toArray, List.getElem?_cons_succ, List.getElem?_cons_zero, Option.getD_some]))
            | (refine Lk.sMove rfl rfl rfl rfl _ (.inl rfl) ?_; simp only [Act.eval, Act.put, Lk.Va.val, Lk.Va.kd, List.setIfInBounds_toArray, List.set_cons_succ, List.set_cons_zero, Array.getD_eq_getD_getElem?, List.getElem?_toArray, List.getElem?_cons_succ, List.getElem?_cons_zero, Option.getD_some])
            | (refine Lk.sMove rfl rfl rfl rfl _ (.inr rfl) ?_; simp only [Act.eval, Act.put, Lk.Va.val, Lk.Va.kd, List.setIfInBounds_toArray, List.set_cons_succ, List.set_cons_zero, Array.getD_eq_getD_getElem?, List.getElem?_toArray, List.getElem?_cons_succ, List.getElem?_cons_zero, Option.getD_some])
            | (refine Lk.sCopy rfl rfl (of_decide_eq_true rfl) _ (.inl rfl) _ rfl rfl ?_; simp only [Act.eval, Act.put, Lk.Va.val, Lk.Va.kd, List.setIfInBounds_toArray, List.set_cons_succ, List.set_cons_zero, Array.getD_eq_getD_getElem?, List.getElem?_toArray, List.getElem?_cons_succ, List.getElem?_cons_zero, Option.getD_some])
            | (refine Lk.sCopy rfl rfl (of_decide_eq_true rfl) _ (.inr rfl) _ rfl rfl ?_; simp only [Act.eval, Act.put, Lk.Va.val, Lk.Va.kd, List.setIfInBounds_toArray, List.set_cons_succ, List.set_cons_zero, Array.getD_eq_getD_getElem?, List.getElem?_toArray, List.getElem?_cons_succ, List.getElem?_cons_zero, Option.getD_some])
            | (refine Lk.sQuiet rfl rfl rfl rfl rfl (fun K hK => ?_); go_big_quiet_op; first | (with_reducible refine ⟨_, fun _ _ => rfl, hK _ ?_⟩; clear hK K) | (refine hK _ ?_; clear hK K)))
          refine Lk.wpK_nil ?_
          refine Lk.After.slot 14 _ rfl ?_; intro u14 _; simp only [Act.eval, Act.put, Lk.Va.val, Lk.Va.kd, List.setIfInBounds_toArray, List.set_cons_succ, List.set_cons_zero, Array.getD_eq_getD_getElem?, List.getElem?_toArray, List.getElem?_cons_succ, List.getElem?_cons_zero, Option.getD_some]
          refine Lk.After.slot 15 _ rfl ?_; intro u15 _; simp only [Act.eval, Act.put, Lk.Va.val, Lk.Va.kd, List.setIfInBounds_toArray, List.set_cons_succ, List.set_cons_zero, Array.getD_eq_getD_getElem?, List.getElem?_toArray, List.getElem?_cons_succ, List.getElem?_cons_zero, Option.getD_some]
          refine Lk.After.slot 52 _ rfl ?_; intro u52 _; simp only [Act.eval, Act.put, Lk.Va.val, Lk.Va.kd, List.setIfInBounds_toArray, List.set_cons_succ, List.set_cons_zero, Array.getD_eq_getD_getElem?, List.getElem?_toArray, List.getElem?_cons_succ, List.getElem?_cons_zero, Option.getD_some]
          refine Lk.After.slot 47 _ rfl ?_; intro u47 _; simp only [Act.eval, Act.put, Lk.Va.val, Lk.Va.kd, List.setIfInBounds_toArray, List.set_cons_succ, List.set_cons_zero, Array.getD_eq_getD_getElem?, List.getElem?_toArray, List.getElem?_cons_succ, List.getElem?_cons_zero, Option.getD_some]
          refine Lk.After.slot 54 _ rfl ?_; intro u54 _; simp only [Act.eval, Act.put, Lk.Va.val, Lk.Va.kd, List.setIfInBounds_toArray, List.set_cons_succ, List.set_cons_zero, Array.getD_eq_getD_getElem?, List.getElem?_toArray, List.getElem?_cons_succ, List.getElem?_cons_zero, Option.getD_some]
          refine Lk.After.slot 53 _ rfl ?_; intro u53 _; simp only [Act.eval, Act.put, Lk.Va.val, Lk.Va.kd, List.setIfInBounds_toArray, List.set_cons_succ, List.set_cons_zero, Array.getD_eq_getD_getElem?, List.getElem?_toArray, List.getElem?_cons_succ, List.getElem?_cons_zero, Option.getD_some]
          refine Lk.After.end_ [14, 15, 52, 47, 54, 53] (by repeat (first | exact Lk.nbut.start | refine Lk.nbut.upd (by simp) ?_)) rfl ?_
          intro fpK wK hwK
          intro hK53 hB53 hX53
          intro hK54 hB54 hX54
          intro hK47 hB47 hX47
          intro hK52 hB52 hX52
          intro hK15 hB15 hX15
          intro hK14 hB14 hX14
        case' inr =>
          refine Lk.wp_k (by kernel_rfl) (by kernel_rfl) (by kernel_rfl) ?_
          repeat (first
            | (refine Lk.sRow rfl rfl rfl rfl 26 _ rfl (b2) 0 rfl [.float .f32 a2, .float .f32 r2, .float .f32 l2] _ Try.underlying26 rfl (by kernel_rfl) (fun v hv => Lo.range_since XB.out.row hv XB.out.at_.lt) ?_; (try simp only [Act.eval, Act.put, Lk.Va.val, Lk.Va.kd, List.setIfInBounds_toArray, List.set_cons_succ, List.set_cons_zero, Array.getD_eq_getD_getElem?, List.getElem?_toArray, List.getElem?_cons_succ, List.getElem?_cons_zero, Option.getD_some]))
            | (refine Lk.sCallK rfl rfl (of_decide_eq_true rfl) 9 [.tmp _, .tmp _] _ rfl (callsEnter 9 Try.f9 _ (by kernel_rfl) (by kernel_rfl) rfl) rfl [.agg #[.float .f32 a2, .float .f32 r2, .float .f32 l2], .slice (some ⟨g, n2, none⟩) (12 - n2) (cp - n2)] rfl (Lk.lfK v10.heap.size (m3) (fun j => Y (n2 + j)) (⟨D.a, D.r, levO D Z 12⟩)) rfl (fun v hv hN => (K3.out v _ _ (.inl rfl) hv).mono fun e v' h => Lk.lf_of hN h) ?_; (try simp only [Act.eval, Act.put, Lk.Va.val, Lk.Va.kd, List.setIfInBounds_toArray, List.set_cons_succ, List.set_cons_zero, Array.getD_eq_getD_getElem?, List.getElem?_toArray, List.getElem?_cons_succ, List.getElem?_cons_zero, Option.getD_some]))
            | (refine Lk.sExtract rfl rfl (of_decide_eq_true rfl) 47 0 rfl (Lk.lfK v10.heap.size (m3) (fun j => Y (n2 + j)) (⟨D.a, D.r, levO D Z 12⟩)) (Lk.loK v10.heap.size (m3) (fun j => Y (n2 + j))) rfl rfl rfl (fun u S w ⟨g', c', x', s', e, h1, h2, h3⟩ => ⟨_, _, e, rfl, trivial, g', c', x', rfl, h1, h3⟩) ?_; (try simp only [Act.eval, Act.put, Lk.Va.val, Lk.Va.kd, List.setIfInBounds_toArray, List.set_cons_succ, List.set_cons_zero, Array.getD_eq_getD_getElem?, List.getElem?_toArray, List.getElem?_cons_succ, List.getElem?_cons_zero, Option.getD_some]))
            | (refine Lk.sExtract rfl rfl (of_decide_eq_true rfl) 47 1 rfl (Lk.lfK v10.heap.size (m3) (fun j => Y (n2 + j)) (⟨D.a, D.r, levO D Z 12⟩)) (Lk.flK (⟨D.a, D.r, levO D Z 12⟩)) rfl rfl rfl (fun u S w ⟨g', c', x', s', e, h1, h2, h3⟩ => ⟨_, _, e, rfl, trivial, s', rfl, h2⟩) ?_; (try simp only [Act.eval, Act.put, Lk.Va.val, Lk.Va.kd, List.setIfInBounds_toArray, List.set_cons_succ, List.set_cons_zero, Array.getD_eq_getD_getElem?, List.getElem?_toArray, List.getElem?_cons_succ, List.getElem?_cons_zero, Option.getD_some]))
            | (refine Lk.sExtractV rfl rfl rfl 47 2 rfl (Lk.lfK v10.heap.size (m3) (fun j => Y (n2 + j)) (⟨D.a, D.r, levO D Z 12⟩)) rfl (.bool true) (fun u S w ⟨g', c', x', s', e, h1, h2, h3⟩ => ⟨_, e, rfl⟩) ?_; (try simp only [Act.eval, Act.put, Lk.Va.val, Lk.Va.kd, List.setIfInBounds_toArray, List.set_cons_succ, List.set_cons_zero, Array.getD_eq_getD_getElem?, List.getElem?_toArray, List.getElem?_cons_succ, List.getElem?_cons_zero, Option.getD_some]))
            | (refine Lk.sAlloc rfl rfl (of_decide_eq_true rfl) 26 rfl 26 [.float .f32 0, .float .f32 0, .float .f32 0] (fun v => by go_simp) ?_; (try simp only [Act.eval, Act.put, Lk.Va.val, Lk.Va.kd, List.setIfInBounds_toArray, List.set_cons_succ, List.set_cons_zero, Array.getD_eq_getD_getElem?, List.getElem?_toArray, List.getElem?_cons_succ, List.getElem?_cons_zero, Option.getD_some]))
            | (refine Lk.sStoreK rfl 26 15 54 rfl rfl 26 (· = _) (Lk.isFol (⟨D.a, D.r, levO D Z 12⟩)) rfl (Lk.flK (⟨D.a, D.r, levO D Z 12⟩)) rfl 3 (fun cs h => by rw [h]; rfl) (by kernel_rfl) (fun u S w ⟨s', e, h⟩ => ⟨_, e, rfl, ⟨s'.a, s'.r, s'.l, rfl, h⟩, by simp [Value.oneCell']⟩) ?_; (try simp only [Act.eval, Act.put, Lk.Va.val, Lk.Va.kd, List.setIfInBounds_toArray, List.set_cons_succ, List.set_cons_zero, Array.getD_eq_getD_getElem?, List.getElem?_toArray, List.getElem?_cons_succ, List.getElem?_cons_zero, Option.getD_some]))
            | (refine Lk.sMove rfl rfl rfl rfl _ (.inl rfl) ?_; simp only [Act.eval, Act.put, Lk.Va.val, Lk.Va.kd, List.setIfInBounds_toArray, List.set_cons_succ, List.set_cons_zero, Array.getD_eq_getD_getElem?, List.getElem?_toArray, List.getElem?_cons_succ, List.getElem?_cons_zero, Option.getD_some])
            | (refine Lk.sMove rfl rfl rfl rfl _ (.inr rfl) ?_; simp only [Act.eval, Act.put, Lk.Va.val, Lk.Va.kd, List.setIfInBounds_toArray, List.set_cons_succ, List.set_cons_zero, Array.getD_eq_getD_getElem?, List.getElem?_toArray, List.getElem?_cons_succ, List.getElem?_cons_zero, Option.getD_some])
            | (refine Lk.sCopy rfl rfl (of_decide_eq_true rfl) _ (.inl rfl) _ rfl rfl ?_; simp only [Act.eval, Act.put, Lk.Va.val, Lk.Va.kd, List.setIfInBounds_toArray, List.set_cons_succ, List.set_cons_zero, Array.getD_eq_getD_getElem?, List.getElem?_toArray, List.getElem?_cons_succ, List.getElem?_cons_zero, Option.getD_some])
            | (refine Lk.sCopy rfl rfl (of_decide_eq_true rfl) _ (.inr rfl) _ rfl rfl ?_; simp only [Act.eval, Act.put, Lk.Va.val, Lk.Va.kd, List.setIfInBounds_toArray, List.set_cons_succ, List.set_cons_zero, Array.getD_eq_getD_getElem?, List.getElem?_toArray, List.getElem?_cons_succ, List.getElem?_cons_zero, Option.getD_some])
            | (refine Lk.sQuiet rfl rfl rfl rfl rfl (fun K hK => ?_); go_big_quiet_op; first | (with_reducible refine ⟨_, fun _ _ => rfl, hK _ ?_⟩; clear hK K) | (refine hK _ ?_; clear hK K)))
          refine Lk.wpK_nil ?_
          refine Lk.After.slot 14 _ rfl ?_; intro u14 _; simp only [Act.eval, Act.put, Lk.Va.val, Lk.Va.kd, List.setIfInBounds_toArray, List.set_cons_succ, List.set_cons_zero, Array.getD_eq_getD_getElem?, List.getElem?_toArray, List.getElem?_cons_succ, List.getElem?_cons_zero, Option.getD_some]
          refine Lk.After.slot 15 _ rfl ?_; intro u15 _; simp only [Act.eval, Act.put, Lk.Va.val, Lk.Va.kd, List.setIfInBounds_toArray, List.set_cons_succ, List.set_cons_zero, Array.getD_eq_getD_getElem?, List.getElem?_toArray, List.getElem?_cons_succ, List.getElem?_cons_zero, Option.getD_some]
          refine Lk.After.slot 52 _ rfl ?_; intro u52 _; simp only [Act.eval, Act.put, Lk.Va.val, Lk.Va.kd, List.setIfInBounds_toArray, List.set_cons_succ, List.set_cons_zero, Array.getD_eq_getD_getElem?, List.getElem?_toArray, List.getElem?_cons_succ, List.getElem?_cons_zero, Option.getD_some]
          refine Lk.After.slot 47 _ rfl ?_; intro u47 _; simp only [Act.eval, Act.put, Lk.Va.val, Lk.Va.kd, List.setIfInBounds_toArray, List.set_cons_succ, List.set_cons_zero, Array.getD_eq_getD_getElem?, List.getElem?_toArray, List.getElem?_cons_succ, List.getElem?_cons_zero, Option.getD_some]
          refine Lk.After.slot 54 _ rfl ?_; intro u54 _; simp only [Act.eval, Act.put, Lk.Va.val, Lk.Va.kd, List.setIfInBounds_toArray, List.set_cons_succ, List.set_cons_zero, Array.getD_eq_getD_getElem?, List.getElem?_toArray, List.getElem?_cons_succ, List.getElem?_cons_zero, Option.getD_some]
          refine Lk.After.slot 53 _ rfl ?_; intro u53 _; simp only [Act.eval, Act.put, Lk.Va.val, Lk.Va.kd, List.setIfInBounds_toArray, List.set_cons_succ, List.set_cons_zero, Array.getD_eq_getD_getElem?, List.getElem?_toArray, List.getElem?_cons_succ, List.getElem?_cons_zero, Option.getD_some]
          refine Lk.After.end_ [14, 15, 52, 47, 54, 53] (by repeat (first | exact Lk.nbut.start | refine Lk.nbut.upd (by simp) ?_)) rfl ?_
          intro fpK wK hwK
          intro hK53 hB53 hX53
          intro hK54 hB54 hX54
          intro hK47 hB47 hX47
          intro hK52 hB52 hX52
          intro hK15 hB15 hX15
          intro hK14 hB14 hX14
        all_goals
          obtain ⟨g3, c3, o3, rfl, hf3, he3⟩ := hK14
          obtain ⟨b3, cb, rfl, ⟨a3, r3, l3, rfl, hv3⟩, hSb, hGb⟩ := Lk.box_ge hK15 hB15 (hX15 rfl)
          have YB : Hid (FolB wK b3 a3 r3 l3) := Lib.hid hGb.1
          have HY := Lib.hid hv3
          have F3 : Hid (∀ j, j < m3 → ab .f32 (wd o3 j) = Y (n2 + j)) := Lib.hid hf3
          have R9 : Hid (Fs wK wK.heap.size (some ⟨g3, 0, none⟩) m3 o3) := Lib.hid (he3.ge hB14).readF
          have S11 := Lib.hid (since_step S10.out hwK); have G11 := Lib.hid ((G10.out.since hwK).more hwK.size); have P11 := Lib.hid ((P10.out.since hwK).more hwK.size); have E11 := Lib.hid (E10.out.of (hwK.block _ E10.out.at_.lt)); have Q11 := Lib.hid ((Q9.out.since hwK).more hwK.size)
          clear S10 G10 P10 E10 Q9 XB HX hK52 hB52 hX52 hK47 hB47 hX47 hK54 hB54 hX54 hK53 hB53 hX53 hB14 hX14 hK15 hB15 hX15 hSb hGb hv3 hf3 he3 hwK K3
          try clear hca
          try clear K4
          try clear hna
          clear fpK
          obtain ⟨v11, hV⟩ : ∃ v, v = wK := ⟨_, rfl⟩
          rw [← hV] at S11 G11 P11 E11 Q11 R9 YB ⊢
          clear hV wK
          as_aux_lemma =>
            obtain ⟨p, hp⟩ : ∃ p, Hid (peakN zs 12 = p) := ⟨_, Lib.hid rfl⟩
            have hp1 : p ≤ 2139095040 := hp.out ▸ (peak_spec zs G11.out.2.1 12).1
            have PK := Lib.hid fun (cc : Nat) => (show Calls Try.prog 10 #[.slice (some ⟨g, 0, none⟩) 12 cc] v11 (fun e w' => e = .returned (.tuple #[.float .f32 p, .bool true]) ∧ v11.Since v11.heap.size w') from (implPeak_any _ 12 cc zs v11 _ G11.out (by omega)).mono (by
              rintro e w' ⟨r, z, rfl, hv, rfl⟩
              rw [if_pos (by omega), hp.out, pos_num hp1] at hv
              rw [decide_eq_true (show 12 ≤ 256 by omega)]
              obtain rfl : r = p := (ab_some hv.2).symm
              exact ⟨rfl, since_drewN (World.Since.refl _ _) _⟩))
            go_wp2_with fail
            refine (PK.out _).mono ?_
            rintro e v12 ⟨rfl, hs⟩
            have S12 := Lib.hid (since_step S11.out hs); have G12 := Lib.hid ((G11.out.since hs).more hs.size); have P12 := Lib.hid ((P11.out.since hs).more hs.size); have E12 := Lib.hid (E11.out.of (hs.block _ E11.out.at_.lt)); have Q12 := Lib.hid ((Q11.out.since hs).more hs.size); have R12 := Lib.hid ((R9.out.since hs).more hs.size); have Y12 := Lib.hid (YB.out.of (hs.block _ YB.out.at_.lt))
            clear hs S11 G11 P11 E11 Q11 R9 YB PK
            as_aux_lemma =>
              have lb1 : l1 < 4294967296 := V1.out.l.out.1
              have lb3 : l3 < 4294967296 := HY.out.l.out.1
              have lbo : wd o1 11 < 4294967296 := P12.out.2.1.at_ 11
              have SB1 : decide (bitsO (ab .f32 l1) = bitsO (ab .f32 l3)) = true := by rw [V1.out.l.out.2, HY.out.l.out.2]; exact decide_eq_true rfl
              have SB2 : decide (bitsO (ab .f32 l1) = bitsO (ab .f32 (wd o1 11))) = true := by rw [V1.out.l.out.2, F1.out 11 (by decide), hY.out]; exact decide_eq_true rfl
              have x1 := E12.out.at_.l; have x3 := Y12.out.at_.l
              obtain ⟨cc, bc⟩ := fs_cell0L P12.out (show 11 < 12 by decide)
              have b1l := E12.out.at_.lt; have b3l := Y12.out.at_.lt
              go_wp2_with fail
              go_region_held_law (fun W' => W'.cell? ⟨b1, 2, none⟩ = some (.float .f32 l1) ∧ W'.cell? ⟨b3, 2, none⟩ = some (.float .f32 l3) ∧ W'.cell? ⟨g1, 11, none⟩ = some (.float .f32 (wd o1 11))) (first
                | exact ⟨x1, x3, cc⟩
                | exact ⟨(T1.out.cell (a := ⟨b1, 2, none⟩) b1l).trans x1, (T1.out.cell (a := ⟨b3, 2, none⟩) b3l).trans x3, (T1.out.cell (a := ⟨g1, 11, none⟩) bc).trans cc⟩
                | exact ⟨(Hb.out.cell (a := ⟨b1, 2, none⟩) b1l).trans x1, (Hb.out.cell (a := ⟨b3, 2, none⟩) b3l).trans x3, (Hb.out.cell (a := ⟨g1, 11, none⟩) bc).trans cc⟩
                | exact ⟨(Ha.out.cell (a := ⟨b1, 2, none⟩) b1l).trans x1, (Ha.out.cell (a := ⟨b3, 2, none⟩) b3l).trans x3, (Ha.out.cell (a := ⟨g1, 11, none⟩) bc).trans cc⟩
                | exact ⟨((((World.Since.refl v12.heap.size v12).drew).alloc (by simp) _).cell (a := ⟨b1, 2, none⟩) b1l).trans x1, ((((World.Since.refl v12.heap.size v12).drew).alloc (by simp) _).cell (a := ⟨b3, 2, none⟩) b3l).trans x3, ((((World.Since.refl v12.heap.size v12).drew).alloc (by simp) _).cell (a := ⟨g1, 11, none⟩) bc).trans cc⟩) (first
                | (refine step_appN (by rfl) (.tmp 81) (.tmp 82) rfl v12.heap.size _ 0 Y rfl ⟨g2, 0, none⟩ n2 c2 o2 _ rfl (Lib.hid (Q12.out.since (((World.Since.refl v12.heap.size v12).drew).alloc (by simp) _))) (fun j hj => by rw [Nat.zero_add]; exact (F2.out j hj).symm) (by omega) (by simp) (Rw.start _ _ (by simp) _) ?_; intro v1 wa hRa hSa; have Ha := Lib.hid ((((World.Since.refl v12.heap.size v12).drew).alloc (by simp) _).trans hSa.out); clear hSa)
                | (refine step_appN (by rfl) (.tmp 83) (.tmp 84) rfl v12.heap.size _ (0 + n2) Y rfl ⟨g3, 0, none⟩ m3 c3 o3 _ rfl (Lib.hid (R12.out.since Ha.out)) (fun j hj => by rw [Nat.zero_add]; exact (F3.out j hj).symm) (by have := hm3.out; omega) Ha.out.size hRa.out ?_; intro v2 wb hRb hSb; have Hb := Lib.hid (Ha.out.trans hSb.out); clear hSb; obtain ⟨⟨pA, pn, px⟩, cq, rfl, hpn, hgp, hap⟩ := hRb.out.done; simp only at hpn hgp; have hpk : pn = 12 := (by have := hm3.out; omega); subst hpk; have GP := Lib.hid hgp.read; have AP := Lib.hid hap; clear hgp hap hRa hRb hpn)
                | (go_at_call 11; refine (r8Same_any _ _ 12 _ _ px o1 wb GP.out ((P12.out.since Hb.out).more Hb.out.size) (by omega) (fun j hj => (AP.out j hj).trans (F1.out j hj).symm)).mono ?_; rintro e wc ⟨rfl, hs⟩; have T1 := Lib.hid (Hb.out.trans (since_mono hs Hb.out.size)); clear hs GP AP)
                | (go_at_call 12; refine (implSame_any _ _ _ (by assumption) (by assumption)).mono ?_; rintro e w' ⟨rfl, rfl⟩; (first | rw [SB1] | rw [SB2])))
              all_goals
                have S13 := Lib.hid (S12.out.trans (since_mono T1.out S12.out.size))
                have P13 := Lib.hid ((P12.out.since T1.out).more T1.out.size)
                obtain ⟨ip, hip, hpp, hX⟩ := peak_plain zs G12.out.2.1 hpl.out
                rw [hp.out] at hpp
                have HIP := Lib.hid hip; have HPP := Lib.hid hpp; have HXX := Lib.hid hX
                have hpw : ab .f32 p = some p := pos_num hp1
                have cvp := conv_k p hpw
                clear hip hpp hX S12 P12 E12 Q12 R12 Y12 lb1 lb3 lbo SB1 SB2 x1 x3 cc bc b1l b3l V1 HY F2 F3
                as_aux_lemma =>
                  go_wp2_with fail
                  generalize hV : wc = V at *
                  go_loopw [19] (fun i wr => ∃ j : Nat, j ≤ 12 ∧ i = .int .i64 (j : Int) ∧ V.Since V.heap.size wr) (fun i _ => 12 - (intOf i).toNat)
                  case atStart => exact ⟨0, Nat.zero_le _, rfl, World.Since.refl _ _⟩
                  case round =>
                    obtain ⟨j, hj, rfl, hs⟩ := hrel
                    have SW := Lib.hid hs; clear hs
                    by_cases hlt : j < 12
                    · skip
                      as_aux_lemma =>
                        obtain ⟨cz, bz⟩ := fs_cell0L P13.out hlt
                        have k1 : wr.cell? ⟨g1, j, none⟩ = some (.float .f32 (wd o1 j)) := (SW.out.cell (a := ⟨g1, j, none⟩) bz).trans cz
                        obtain ⟨lq, el, nl, hl0⟩ := lev_all (c := rung .f32 (plW ip % 2147483648) + 1) (X := Z) (n := 12) (tW_nn H1.out) (tW_nn H2.out) (by rw [hZ.out]; exact HXX.out) (by have := (pl_small ip HIP.out).2; rw [rung32]; omega) (j + 1) (by omega)
                        have hw : ab .f32 (wd o1 j) = some lq := by rw [F1.out j hlt, hY.out, hDD.out]; exact el
                        have elw : lq = wd o1 j := ab_some hw
                        rw [elw] at nl hl0 hw
                        obtain ⟨z, hz, hgt⟩ := lev_more HIP.out nl hl0
                        rw [← HPP.out] at hz
                        have vy := conv_k (wd o1 j) hw
                        have vm := fun W => run_float_arith (P := Try.prog) W .mul 39 .f64 4607182869159980145 (w64 p) z hz
                        have hor := nn_ord0 nl
                        clear cz el nl hl0 hw elw hz
                        rcases hor with ⟨_, hor⟩ | hor
                        all_goals
                          go_wp2_with fail
                          refine ⟨⟨j + 1, by omega, by go_num, SW.out⟩, by simp [intOf]; omega⟩
                    · obtain rfl : j = 12 := by omega
                      go_wp2
                      go_ret
                      exact ⟨rfl, S13.out.trans (since_mono SW.out S13.out.size)⟩
end Go.Proofs.Ytagcepankiinpaa

