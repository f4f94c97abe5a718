/- Joined: Lm Ln Hc Hd He Hf Hg Jk Hh Ei Ta Hi Hj Ae Ma Aa Ab Ac Lf Ad Af Ag La Hv Hw -/
import Derived.Test.YtjfiljklohpnoaaLl
import Derived.Test.YtjfiljklohpnoaaHb
import Derived.Test.YtjfiljklohpnoaaIl
import Derived.Test.YtjfiljklohpnoaaDl
import Derived.BigQuiet
import Derived.Test.YtjfiljklohpnoaaEg
import Derived.Test.YtjfiljklohpnoaaSc
import Derived.Test.YtjfiljklohpnoaaFr
import Derived.Test.YtjfiljklohpnoaaEh
import Derived.Laws.AppendOwnNone
import Derived.Test.YtjfiljklohpnoaaHa
import Derived.Test.YtjfiljklohpnoaaLw
import Derived.Test.YtjfiljklohpnoaaDi
import Derived.Test.YtjfiljklohpnoaaDr
import Derived.Test.YtjfiljklohpnoaaEc
import Derived.Test.YtjfiljklohpnoaaLq
import Derived.OrdersHeld
import Derived.Test.YtjfiljklohpnoaaEd
import Derived.Test.YtjfiljklohpnoaaWc
/- What is known of a slot: lists of numbers, boxes. -/
set_option linter.unusedVariables false
set_option linter.unusedSimpArgs false
namespace Go.Proofs.Ytjfiljklohpnoaa
open Fl Go.RowKit
namespace Lk
/-- an entry among these blocks, behind lo -/
def EnK (lo : Nat) (e : En) (S : Fp) (w : World) : Prop := e.P w ∧ (∀ w w' : World, (∀ g, e.S g → w'.heap[g]? = w.heap[g]?) → e.P w → e.P w') ∧ (∀ k, e.S k → S k) ∧ ∀ k, e.S k → lo ≤ k
theorem EnK.keep {lo : Nat} {e : En} {S : Fp} {w w' : World} (h : EnK lo e S w) (hs : ∀ g, S g → w'.heap[g]? = w.heap[g]?) : EnK lo e S w' := ⟨h.2.1 w w' (fun g hg => hs g (h.2.2.1 g hg)) h.1, h.2⟩
theorem EnK.of {lo B : Nat} {e : En} {w : World} (h : Ge B w e) (hl : lo ≤ B) : EnK lo e e.S w := ⟨h.1, h.2.1, fun _ h => h, fun k hk => Nat.le_trans hl (h.2.2 k hk).1⟩
theorem EnK.ge {lo : Nat} {e : En} {S : Fp} {w : World} (h : EnK lo e S w) (hb : ∀ g, S g → g < w.heap.size) : Ge lo w e := ⟨h.1, h.2.1, fun g hg => ⟨h.2.2.2 g hg, hb g (h.2.2.1 g hg)⟩⟩
theorem EnK.readF {lo n : Nat} {A : Option Addr} {xs : List Nat} {S : Fp} {w : World} (h : EnK lo (fe A n xs) S w) : Fs w w.heap.size A n xs :=
  ⟨h.1.1.1, h.1.1.2, fun hn => by
    obtain ⟨g, off, cs, e, hb, hc⟩ := h.1.2 hn
    refine ⟨g, off, e, (Array.getElem?_eq_some_iff.1 hb).1, fun k hk => ?_⟩
    simp only [World.cell?, hb]
    simpa using hc k hk⟩
/-- a copy of numbers -/
def xK (lo n : Nat) (xs : List Nat) : Kd where
  p := fun u S w => ∃ B : Nat, u = .slice (some ⟨B, 0, none⟩) n n ∧ EnK lo (fe (some ⟨B, 0, none⟩) n xs) S w
  stable := fun u S w w' h hp => by
    obtain ⟨B, e, hb⟩ := hp
    exact ⟨B, e, hb.keep h⟩
  bx := false
/-- a list of numbers -/
def feK (lo n0 : Nat) (f0 : Nat → O) : Kd where
  p := fun u S w => ∃ (p : Ls) (c : Nat), u = .slice p.A p.n c ∧ p.n = n0 ∧ Are p f0 ∧ EnK lo (fe p.A p.n p.xs) S w
  stable := fun u S w w' h hp => by
    obtain ⟨p, c, e, h1, h2, hb⟩ := hp
    exact ⟨p, c, e, h1, h2, hb.keep h⟩
  bx := false
theorem box_ge {T : TypeId} {Pc : List Value → Prop} {u : Value} {S : Fp} {w : World} {lo : Nat} (h : (bxK T Pc).p u S w) (hb : ∀ g, S g → g < w.heap.size) (hl : ∀ g, S g → lo ≤ g) : ∃ g cs, u = .pointer (some ⟨g, 0, none⟩) ∧ Pc cs ∧ (∀ k, S k ↔ k = g) ∧ Ge lo w (bxv T g cs) := by
  obtain ⟨g, cs, e, hS, hh, hc⟩ := h
  exact ⟨g, cs, e, hc, hS, hh, fun w w' h hp => (h g rfl).trans hp, fun k hk => by
    have hk' : k = g := hk
    subst hk'
    exact ⟨hl k ((hS k).2 rfl), hb k ((hS k).2 rfl)⟩⟩
theorem box_de {T : TypeId} {g : Nat} {cs : List Value} {S S' : Fp} {e : En} {lo : Nat} {w : World} (hS : ∀ k, S k ↔ k = g) (hd : ∀ k, S k → ¬ S' k) (h : EnK lo e S' w) : De (bxv T g cs) e := fun k hk he => hd k ((hS k).2 hk) (h.2.2.1 k he)
end Lk
end Go.Proofs.Ytjfiljklohpnoaa

/- Loose regions with guards. -/
set_option linter.unusedVariables false
set_option linter.unusedSimpArgs false
namespace Go.Proofs.Ytjfiljklohpnoaa
open Fl Go.RowKit
namespace Lk
section
variable {P : Program} {ops : Array Oper} {w0 : World} {Q : Fa → Prop} {A : Fa} {o : Oper} {rest : List Oper}
/-- an operation without its guard -/
def free (o : Oper) : Oper := { o with guard := none }
theorem looks_free {i : Nat} (h : i ∈ (free o).looksAt ops) : i ∈ o.looksAt ops := by
  unfold Oper.looksAt at h ⊢
  rcases List.mem_append.1 h with h | h
  · exact List.mem_append_left _ h
  · cases h
theorem good_free {N : Nat} {b : Act} {fp : Nat → Fp} {w : World} {e : Ef} {u : Value} {w' : World} (h : good ops N (free o) A b fp w e u w') : good ops N o A b fp w e u w' := by
  obtain ⟨x, st⟩ := e
  unfold good at h ⊢
  refine ⟨?_, h.2⟩
  cases x with
  | v z => exact h.1
  | k K =>
    obtain ⟨h1, S, h2, h3, h4⟩ := h.1
    refine ⟨h1, S, h2, h3, fun g hg => ⟨(h4 g hg).1, ?_⟩⟩
    rcases (h4 g hg).2 with h5 | h5 | ⟨j, K', h6, h7⟩
    · exact .inl h5
    · exact .inr (.inl h5)
    · exact .inr (.inr ⟨j, K', looks_free h6, h7⟩)
theorem upon_mono {G H : Value → World → Prop} (hGH : ∀ u w, G u w → H u w) {r : Result Next} (h : upon P G r) : upon P H r := by
  cases r with
  | ok n w2 =>
    cases n with
    | value u => exact hGH _ _ h
    | skip => exact hGH _ _ h
    | enter f args => exact Calls.mono h fun e w3 ⟨u, he, hu⟩ => ⟨u, he, hGH _ _ hu⟩
    | _ => exact h
  | halt x w2 => exact h
/-- an operation whose guard says yes -/
theorem wpK_yes {q : Nat × Bool} (hg : o.guard = some q) (hw : Region.wanted o (yielded ops A.a.tmps) = true) (h : wpK P ops w0 Q (⟨o.dst, o.op, o.type, o.pos, o.after, none⟩ :: rest) A) : wpK P ops w0 Q (o :: rest) A := by
  have h' : wpK P ops w0 Q (free o :: rest) A := h
  unfold wpK at h' ⊢
  rw [if_pos hw]
  rw [if_pos (Lo.wanted_none rfl _)] at h'
  obtain ⟨e, ⟨h1, h2⟩, hK⟩ := h'
  refine ⟨e, ⟨h1, fun b fp w hw hN hs hR => ?_⟩, hK⟩
  exact upon_mono (fun u w' hg => good_free hg) (h2 b fp w hw hN hs fun i hi => hR i (looks_free hi))
end
section
variable {P : Program} {ops : Array Oper} {w0 : World} {Q : Fa → Prop} {a : Act} {κ : Nat → Option Kd} {o : Oper} {rest : List Oper} {d : Nat}
/-- an operation whose guard says no -/
theorem sSkip {q : Nat × Bool} (hg : o.guard = some q) (hw : Region.wanted o (yielded ops a.tmps) = false) (hd : o.dst = some d) (hk : κ d = none) (hK : wpK P ops w0 Q rest ⟨a.put (some d) undef, κ⟩) : wpK P ops w0 Q (o :: rest) ⟨a, κ⟩ := by
  unfold wpK
  rw [if_neg (by rw [hw]; decide), hd, put_known hk]
  exact hK
theorem sYes {q : Nat × Bool} (hg : o.guard = some q) (hw : Region.wanted o (yielded ops a.tmps) = true) (h : wpK P ops w0 Q (⟨o.dst, o.op, o.type, o.pos, o.after, none⟩ :: rest) ⟨a, κ⟩) : wpK P ops w0 Q (o :: rest) ⟨a, κ⟩ := wpK_yes hg hw h
/-- a float, whatever its bits if it is none -/
def yF (Y : O) : Kd where
  p := fun u S w => ∃ q : Nat, u = .float .f32 q ∧ Hid (Fv .f32 q Y)
  stable := fun u S w w' h hp => hp
  bx := false
/-- an operation on floats, whose result may be none -/
theorem sFop (hg : o.guard = none) (hd : o.dst = some d) (hs : d < a.tmps.size) (ho : avoidK ⟨a, κ⟩ o = true) (op : BinOp) (t t2 : TypeId) (x y : Operand) (hop : o.op = Op.binOp op t x y t2) (hf : isF op = true) (p q : Nat) (X Y : O)
    (hx : a.eval x = .float .f32 p) (hy : a.eval y = .float .f32 q) (hX : Hid (Fv .f32 p X)) (hY : Hid (Fv .f32 q Y)) (hK : wpK P ops w0 Q rest ⟨a.put (some d) undef, upd κ d (some (yF (opO op .f32 X Y)))⟩) : wpK P ops w0 Q (o :: rest) ⟨a, κ⟩ := by
  refine wpK_of_loose (e := ⟨.k (yF (opO op .f32 X Y)), none⟩) hg ⟨fun q hq => (by cases hq), fun b fp w hw hN _ hR => ?_⟩ (by rw [hd, put_some hs]; exact hK)
  rw [eval_avoidK hR ho]
  have e : (execOp a.eval o).run P w = .ok (.value (.float .f32 (ov op .f32 p q w))) (w.drewN (on op .f32 p q)) := by
    have he : eqGuard op t x y (.float .f32 p) (.float .f32 q) = pure () := by
      unfold eqGuard
      cases op <;> simp only [isF] at hf <;> first | (cases hf; done) | rfl
    unfold execOp
    simp only [hop, hx, hy, he, Sem.run_bind, run_fopE hf, Result.andThen_ok, Sem.run_pure]
  rw [e]
  refine ⟨⟨trivial, fun _ => False, ⟨_, rfl, Lib.hid ?_⟩, (fun h => by cases h), fun g hg => hg.elim⟩, since_drewN (World.Since.refl _ _) _⟩
  have := ov_fv hf .f32 p q w
  rw [hX.out.2, hY.out.2] at this
  exact this
/-- a call with one argument known by its properties, and one known value -/
theorem sCall1V (hg : o.guard = none) (hd : o.dst = some d) (hkd : κ d = none) (f : FuncId) (xs : List Operand) (tys : Array TypeId) (hop : o.op = Op.call ⟨.value (.func f), xs.toArray, tys⟩) (henter : ∀ args w2, (callFunc f args).run P w2 = .ok (.enter f args) w2) (s : Nat) (hin : (.tmp s : Operand) ∈ xs) (K0 : Kd) (hks : κ s = some K0) (V : Value → List Value)
    (hV : ∀ b : Act, (xs.map fun x => match x with | .tmp t => (match κ t with | some _ => b.tmps.getD t undef | none => a.tmps.getD t undef) | y => a.eval y) = V (b.tmps.getD s undef)) (z : Value)
    (hc : ∀ u S w, w0.Since w0.heap.size w → w0.heap.size ≤ w.heap.size → K0.p u S w → Calls P f (V u).toArray w fun e2 w2 => e2 = .returned z ∧ w.Since w.heap.size w2)
    (hK : wpK P ops w0 Q rest ⟨a.put (some d) z, κ⟩) : wpK P ops w0 Q (o :: rest) ⟨a, κ⟩ :=
  wpK_callV hg f xs tys hop henter z (fun b fp w hw hN hR => by
    have e := args_eq hR (mem_call hop)
    rw [e]
    have h := (hR s (looks_op (mem_call hop _ hin))).some_ hks
    have := hc _ _ w hw hN h.2.2.1
    rw [← hV b] at this
    exact this) (by rw [hd, put_known hkd]; exact hK)
/-- a cell is loaded that lies before the statement's own memory -/
theorem sLoadF (hg : o.guard = none) (hd : o.dst = some d) (hk : κ d = none) (ho : avoidK ⟨a, κ⟩ o = true) (ty : TypeId) (x : Operand) (hop : o.op = .load ty x) (p : Addr) (hx : a.eval x = .pointer (some p)) (val : Value)
    (hS : ∀ v, w0.Since w0.heap.size v → (loadVar ty p).run P v = .ok val v)
    (hK : wpK P ops w0 Q rest ⟨a.put (some d) val, κ⟩) : wpK P ops w0 Q (o :: rest) ⟨a, κ⟩ :=
  sTold hg hd hk ho _ (fun w hw _ => ⟨w, by
    unfold execOp
    simp only [hop, hx, Instr.loadAt, Instr.sureAddr, Sem.run_bind, Sem.run_pure, Result.andThen_ok, hS w hw], World.Since.refl _ _⟩) hK
end
theorem loadF {w : World} {p : Addr} {x : Nat} (h : w.cell? p = some (.float .f32 x)) : (loadVar 24 p).run Try.prog w = .ok (.float .f32 x) w := by
  simp [loadVar, go_sem, h]
end Lk
end Go.Proofs.Ytjfiljklohpnoaa

/- Draws: bytes that can be read, and the source of draws. -/
set_option linter.unusedVariables false
set_option linter.unusedSimpArgs false
namespace Go.Proofs.Ytjfiljklohpnoaa
open Fl Go.RowKit
theorem and255u (z : Int) : 0 ≤ wrap64 (bits BinOp.and IntKind.u64 z 255) ∧ wrap64 (bits BinOp.and IntKind.u64 z 255) < 256 := by
  have h : bits BinOp.and IntKind.u64 z 255 = z % 256 := by
    have hb : (BitVec.ofInt 64 255).toNat = 255 := by decide
    have ha : (BitVec.ofInt 64 z).toNat = (z % 18446744073709551616).toNat := by rw [BitVec.toNat_ofInt]; rfl
    have hw : ∀ n : Nat, n < 256 → IntKind.u64.wrap (n : Int) = n := fun n h => by rw [IntKind.wrap_u64]; omega
    show IntKind.u64.wrap (((BitVec.ofInt 64 z &&& BitVec.ofInt 64 255).toNat : Nat) : Int) = _
    rw [BitVec.toNat_and, ha, hb]
    have e : ∀ n : Nat, n &&& 255 = n % 256 := fun n => Nat.and_two_pow_sub_one_eq_mod n 8
    rw [e, hw _ (Nat.mod_lt _ (by decide))]
    omega
  rw [h]
  unfold wrap64
  omega
/-- bytes that can be read -/
def Bs (w : World) (B : Nat) (A : Option Addr) (n : Nat) (xs : List Int) : Prop :=
  xs.length = n ∧ (∀ k, 0 ≤ wi xs k ∧ wi xs k < 256) ∧ (0 < n → ∃ g off, A = some ⟨g, off, none⟩ ∧ g < B ∧ ∀ k, k < n → w.cell? ⟨g, off + k, none⟩ = some (.int .u8 (wi xs k)))
theorem Bs.keep {w w' : World} {B : Nat} {A : Option Addr} {n : Nat} {xs : List Int} (h : Bs w B A n xs) (hk : ∀ g o, g < B → w'.cell? ⟨g, o, none⟩ = w.cell? ⟨g, o, none⟩) : Bs w' B A n xs :=
  ⟨h.1, h.2.1, fun hn => by
    obtain ⟨g, off, e, hg, hc⟩ := h.2.2 hn
    exact ⟨g, off, e, hg, fun k hk' => (hk g _ hg).trans (hc k hk')⟩⟩
theorem Bs.more {w : World} {B B' : Nat} {A : Option Addr} {n : Nat} {xs : List Int} (h : Bs w B A n xs) (hB : B ≤ B') : Bs w B' A n xs :=
  ⟨h.1, h.2.1, fun hn => by
    obtain ⟨g, off, e, hg, hc⟩ := h.2.2 hn
    exact ⟨g, off, e, by omega, hc⟩⟩
theorem Bs.since {w w' : World} {B B' : Nat} {A : Option Addr} {n : Nat} {xs : List Int} (h : Bs w B A n xs) (hs : w.Since B' w') (hB : B ≤ B') : Bs w' B A n xs :=
  h.keep fun g o hg => hs.cell (a := ⟨g, o, none⟩) (by show g < B'; omega)
theorem Bs.drewN {w : World} {B : Nat} {A : Option Addr} {n : Nat} {xs : List Int} (h : Bs w B A n xs) (m : Nat) : Bs (w.drewN m) B A n xs := h.keep fun _ _ _ => rfl
/-- a source's block -/
def SrcB (w : World) (b : Nat) (A : Option Addr) (n c : Nat) (i sd : Int) : Prop := w.heap[b]? = some (.cells #[.slice A n c, .int .i64 i, .int .u64 sd] 61 (0, 0))
theorem SrcB.lt {w : World} {b n c : Nat} {A : Option Addr} {i sd : Int} (h : SrcB w b A n c i sd) : b < w.heap.size := (Array.getElem?_eq_some_iff.1 h).1
theorem SrcB.c0 {w : World} {b n c : Nat} {A : Option Addr} {i sd : Int} (h : SrcB w b A n c i sd) : w.cell? ⟨b, 0, none⟩ = some (.slice A n c) := by unfold SrcB at h; simp [World.cell?, h]
theorem SrcB.c1 {w : World} {b n c : Nat} {A : Option Addr} {i sd : Int} (h : SrcB w b A n c i sd) : w.cell? ⟨b, 1, none⟩ = some (.int .i64 i) := by unfold SrcB at h; simp [World.cell?, h]
theorem SrcB.c2 {w : World} {b n c : Nat} {A : Option Addr} {i sd : Int} (h : SrcB w b A n c i sd) : w.cell? ⟨b, 2, none⟩ = some (.int .u64 sd) := by unfold SrcB at h; simp [World.cell?, h]
theorem SrcB.free {w : World} {b n c q : Nat} {A : Option Addr} {i sd : Int} (h : SrcB w b A n c i sd) : w.frozen? ⟨b, q, none⟩ = false := by unfold SrcB at h; simp [World.frozen?, h]
theorem SrcB.of {w w' : World} {b n c : Nat} {A : Option Addr} {i sd : Int} (h : SrcB w b A n c i sd) (e : w'.heap[b]? = w.heap[b]?) : SrcB w' b A n c i sd := e.trans h
theorem SrcB.set1 {w : World} {b n c : Nat} {A : Option Addr} {i sd i' : Int} (h : SrcB w b A n c i sd) : SrcB (w.setCell ⟨b, 1, none⟩ (.int .i64 i')) b A n c i' sd := by
  unfold SrcB at h ⊢
  simp [World.setCell, Array.getElem?_modify, h]
theorem SrcB.set2 {w : World} {b n c : Nat} {A : Option Addr} {i sd sd' : Int} (h : SrcB w b A n c i sd) : SrcB (w.setCell ⟨b, 2, none⟩ (.int .u64 sd')) b A n c i sd' := by
  unfold SrcB at h ⊢
  simp [World.setCell, Array.getElem?_modify, h]
/-- a source in block b that has drawn at most K times, whose bytes lie in blocks before B -/
def Src (B b K : Nat) (w : World) : Prop := ∃ (A : Option Addr) (n c : Nat) (xs : List Int) (i sd : Int), SrcB w b A n c i sd ∧ Bs w B A n xs ∧ B ≤ b ∧ n ≤ 1048576 ∧ 0 ≤ i ∧ i ≤ (K : Int)
theorem Src.on {B b K : Nat} {w w' : World} (h : Src B b K w) (hs : w.Since (b + 1) w') : Src B b K w' := by
  obtain ⟨A, n, c, xs, i, sd, h1, h2, h3, h4, h5⟩ := h
  exact ⟨A, n, c, xs, i, sd, h1.of (hs.block b (by omega)), h2.since hs (by omega), h3, h4, h5⟩
theorem Src.up {B b K K' : Nat} {w : World} (h : Src B b K w) (hK : K ≤ K') : Src B b K' w := by
  obtain ⟨A, n, c, xs, i, sd, h1, h2, h3, h4, h5, h6⟩ := h
  exact ⟨A, n, c, xs, i, sd, h1, h2, h3, h4, h5, by omega⟩
theorem Src.lt {B b K : Nat} {w : World} (h : Src B b K w) : b < w.heap.size := by
  obtain ⟨A, n, c, xs, i, sd, h1, h2, h3, h4, h5, h6⟩ := h
  exact h1.lt
theorem Src.drewN {B b K : Nat} {w : World} (h : Src B b K w) (m : Nat) : Src B b K (w.drewN m) := h.on (since_drewN (World.Since.refl _ _) m)
theorem on_post {b lo : Nat} {w a c : World} (h : On b w a) (s : a.Since lo c) (hl : w.heap.size ≤ lo) (hb : b < w.heap.size) : On b w c :=
  ⟨h.1.trans (since_mono s (by omega)), fun x hx hn => (s.block x (by omega)).trans (h.2 x hx hn)⟩
theorem Src.low {B b K : Nat} {w : World} (h : Src B b K w) : B ≤ b := by
  obtain ⟨A, n, c, xs, i, sd, h1, h2, h3, h4, h5, h6⟩ := h
  exact h3
set_option maxHeartbeats 4000000 in
set_option maxRecDepth 100000 in
theorem next_any (B b K : Nat) (w : World) (h : Src B b K w) (hK : K ≤ 1000000000) :
    Calls Try.prog 34 #[.pointer (some ⟨b, 0, none⟩)] w fun e w' => ∃ v : Int, e = .returned (.int .i64 v) ∧ 0 ≤ v ∧ v < 256 ∧ Src B b (K + 1) w' ∧ On b w w' := by
  obtain ⟨A, n, c, xs, i, sd, h1, h2, h3, h4, h5, h6⟩ := h
  have H1 := Lib.hid h1; have H2 := Lib.hid h2
  have c0 := h1.c0; have c1 := h1.c1; have c2 := h1.c2
  have f1 := h1.free (q := 1); have f2 := h1.free (q := 2)
  clear h1 h2
  by_cases hi : i < (n : Int)
  · have hd : decide (i < (n : Int)) = true := decide_eq_true hi
    have hd2 : decide (i + 1 ≤ (n : Int)) = true := decide_eq_true (by omega)
    obtain ⟨j, rfl⟩ := Int.eq_ofNat_of_zero_le h5
    obtain ⟨g, off, rfl, hg, hc⟩ := H2.out.2.2 (by omega)
    have hcell := hc j (by omega)
    have hv := H2.out.2.1 j
    clear hc
    go_enter Try.func34, Try.ntmps34
    go_wp2_with fail
    go_quiet (fail)
    go_wp2_with fail
    go_quiet (fail)
    go_wp2_with fail
    generalize IntKind.wrap .u64 (IntKind.wrap .u64 (_ + _) + 1442695040888963407) = sd'
    generalize hW : World.setCell _ _ _ = W
    have B1 : Hid (SrcB W b (some ⟨g, off, none⟩) n c ((j : Int) + 1) sd') := Lib.hid (by rw [← hW]; exact H1.out.set1.set2)
    have O1 : Hid (On b w W) := Lib.hid (by rw [← hW]; exact ((On.refl _ _).set _ _).set _ _)
    have d0 := B1.out.c0; have d1 := B1.out.c1; have d2 := B1.out.c2
    clear hW
    go_quiet (fail)
    go_wp2
    go_ret
    exact ⟨_, rfl, hv.1, hv.2, ⟨_, n, c, xs, _, sd', B1.out, by first | exact (H2.out.since O1.out.1 h3).drewN _ | exact ((H2.out.since O1.out.1 h3).drewN _).drewN _, h3, h4, by omega, by omega⟩, by first | exact O1.out.drewN _ | exact (O1.out.drewN _).drewN _⟩
  · have hd : decide (i < (n : Int)) = false := decide_eq_false hi
    have hd2 : decide (i + 1 ≤ (n : Int)) = false := decide_eq_false (by omega)
    go_enter Try.func34, Try.ntmps34
    go_wp2_with fail
    go_quiet (fail)
    go_wp2_with fail
    generalize IntKind.wrap .u64 (IntKind.wrap .u64 _ + 1442695040888963407) = sd'
    generalize hW : World.setCell _ _ _ = W
    have B1 : Hid (SrcB W b A n c (i + 1) sd') := Lib.hid (by rw [← hW]; exact H1.out.set1.set2)
    have O1 : Hid (On b w W) := Lib.hid (by rw [← hW]; exact ((On.refl _ _).set _ _).set _ _)
    have d0 := B1.out.c0; have d1 := B1.out.c1; have d2 := B1.out.c2
    clear hW
    go_quiet (fail)
    go_wp2
    go_ret
    have h255 := and255u (sd' / 1099511627776)
    exact ⟨_, rfl, h255.1, h255.2, ⟨_, n, c, xs, _, sd', B1.out, by first | exact (H2.out.since O1.out.1 h3).drewN _ | exact ((H2.out.since O1.out.1 h3).drewN _).drewN _, h3, h4, by omega, by omega⟩, by first | exact O1.out.drewN _ | exact (O1.out.drewN _).drewN _⟩
end Go.Proofs.Ytjfiljklohpnoaa

/- Draws: picks of numbers. -/
set_option linter.unusedVariables false
set_option linter.unusedSimpArgs false
namespace Go.Proofs.Ytjfiljklohpnoaa
open Fl Go.RowKit
set_option maxHeartbeats 4000000 in
set_option maxRecDepth 100000 in
theorem pick_any (B b K : Nat) (n : Int) (w : World) (h : Src B b K w) (hK : K ≤ 1000000) (hn : n ≤ 1000000000) :
    Calls Try.prog 18 #[.pointer (some ⟨b, 0, none⟩), .int .i64 n] w fun e w' => ∃ v : Int, e = .returned (.int .i64 v) ∧ 0 ≤ v ∧ (1 ≤ n → v < n) ∧ Src B b (K + 2) w' ∧ On b w w' := by
  by_cases h1 : n ≤ 1
  · have hd : decide (n ≤ 1) = true := decide_eq_true h1
    go_enter Try.func18, Try.ntmps18
    go_wp2
    go_ret
    exact ⟨0, rfl, by omega, fun _ => by omega, h.up (by omega), On.refl _ _⟩
  · have hd : decide (n ≤ 1) = false := decide_eq_false h1
    have hz : n ≠ 0 := by omega
    have HH := Lib.hid h; clear h
    by_cases h2 : 200 < n
    · have hd2 : decide (200 < n) = true := decide_eq_true h2
      go_enter Try.func18, Try.ntmps18
      go_wp2_with fail
      refine (next_any B b K w HH.out (by omega)).mono ?_
      rintro e w1 ⟨v1, rfl, a1, a2, s1, o1⟩
      have S1 := Lib.hid s1; have O1 := Lib.hid o1; clear s1 o1
      go_wp2_with fail
      refine (next_any B b (K + 1) w1 S1.out (by omega)).mono ?_
      rintro e w2 ⟨v2, rfl, a3, a4, s2, o2⟩
      have S2 := Lib.hid s2; have O2 := Lib.hid o2; clear s2 o2
      go_wp2
      go_ret
      exact ⟨_, rfl, by exact Int.emod_nonneg _ hz, fun _ => by exact Int.emod_lt_of_pos _ (by omega), S2.out, O1.out.trans O2.out⟩
    · have hd2 : decide (200 < n) = false := decide_eq_false h2
      go_enter Try.func18, Try.ntmps18
      go_wp2_with fail
      refine (next_any B b K w HH.out (by omega)).mono ?_
      rintro e w1 ⟨v1, rfl, a1, a2, s1, o1⟩
      have S1 := Lib.hid s1; have O1 := Lib.hid o1; clear s1 o1
      go_wp2
      go_ret
      exact ⟨_, rfl, by exact Int.emod_nonneg _ hz, fun _ => by exact Int.emod_lt_of_pos _ (by omega), S1.out.up (by omega), O1.out⟩
theorem one_any (B b K : Nat) (n : Int) (w : World) (h : Src B b K w) (hK : K ≤ 1000000) (hn : n ≤ 1000000000) :
    Calls Try.prog 17 #[.pointer (some ⟨b, 0, none⟩), .int .i64 n] w fun e w' => ∃ v : Bool, e = .returned (.bool v) ∧ Src B b (K + 2) w' ∧ On b w w' := by
  have HH := Lib.hid h; clear h
  go_enter Try.func17, Try.ntmps17
  go_wp2_with fail
  refine (pick_any B b K n w HH.out hK hn).mono ?_
  rintro e w1 ⟨v1, rfl, a1, a2, s1, o1⟩
  have S1 := Lib.hid s1; have O1 := Lib.hid o1; clear s1 o1
  go_wp2
  go_ret
  exact ⟨_, rfl, S1.out, O1.out⟩
/-- one of a list of numbers that lie in a block of their own -/
theorem among_any (B b K g n : Nat) (xs : List Int) (w : World) (h : Src B b K w) (hK : K ≤ 1000000) (hx : Is w w.heap.size (some ⟨g, 0, none⟩) n xs) (h0 : 0 < n) (hn : n ≤ 1000000) (hg : b < g) (hlt : g < w.heap.size) :
    Calls Try.prog 37 #[.pointer (some ⟨b, 0, none⟩), .slice (some ⟨g, 0, none⟩) n n] w fun e w' => ∃ k : Nat, e = .returned (.int .i64 (wi xs k)) ∧ k < n ∧ Src B b (K + 2) w' ∧ On b w w' := by
  have HH := Lib.hid h; have HX := Lib.hid hx; clear h hx
  go_enter Try.func37, Try.ntmps37
  go_wp2_with fail
  refine (pick_any B b K n w HH.out hK (by omega)).mono ?_
  rintro e w1 ⟨v1, rfl, a1, a2, s1, o1⟩
  have S1 := Lib.hid s1; have O1 := Lib.hid o1; clear s1 o1
  obtain ⟨k, rfl⟩ := Int.eq_ofNat_of_zero_le a1
  have hk : k < n := by have := a2 (by omega); omega
  have hcell : w1.cell? ⟨g, k, none⟩ = some (.int .i64 (wi xs k)) := by
    obtain ⟨g', off, e, hg', hc⟩ := HX.out.2 h0
    injection e with e
    injection e with e1 e2
    subst e1; subst e2
    have := hc k hk
    rw [Nat.zero_add] at this
    exact (cell_of_block (O1.out.2 g hlt (by omega)) _).trans this
  go_wp2
  go_ret
  exact ⟨k, rfl, hk, S1.out, O1.out⟩
end Go.Proofs.Ytjfiljklohpnoaa

/- Draws: numbers and lists of numbers, of any bits. -/
set_option linter.unusedVariables false
set_option linter.unusedSimpArgs false
namespace Go.Proofs.Ytjfiljklohpnoaa
open Fl Go.RowKit
set_option maxHeartbeats 4000000 in
set_option maxRecDepth 100000 in
theorem plain_any (B b K : Nat) (w : World) (h : Src B b K w) (hK : K ≤ 900000) :
    Calls Try.prog 36 #[.pointer (some ⟨b, 0, none⟩)] w fun e w' => ∃ q Q, e = .returned (.float .f32 q) ∧ Hid (Fv .f32 q Q) ∧ Src B b (K + 4) w' ∧ On b w w' := by
  have HH := Lib.hid h; clear h
  go_enter Try.func36, Try.ntmps36
  go_wp2_with fail
  refine (pick_any B b K 129 w HH.out (by omega) (by omega)).mono ?_
  rintro e w1 ⟨v1, rfl, a1, a2, s1, o1⟩
  have a3 := a2 (by omega)
  have S1 := Lib.hid s1; have O1 := Lib.hid o1; clear s1 o1 a2
  go_wp2_with fail
  refine (one_any B b (K + 2) 4 w1 S1.out (by omega) (by omega)).mono ?_
  rintro e w2 ⟨v2, rfl, s2, o2⟩
  have S2 := Lib.hid s2; have O2 := Lib.hid o2; clear s2 o2
  have q1 := fI_fv (v1 - 64)
  have q7 : Hid (Fv .f32 1088421888 (some 1088421888)) := fvc (by decide) (by decide)
  have q16 : Hid (Fv .f32 1098907648 (some 1098907648)) := fvc (by decide) (by decide)
  cases v2
  all_goals
    go_wp2_with (with_reducible_and_instances refine Lo.wpList_fo _ rfl _ _ _ _ _ rfl _ _ _ _ _ rfl rfl rfl (by assumption) (by assumption) ?_; intro rr nn hrr)
    go_ret
    exact ⟨_, _, rfl, hrr, S2.out.drewN _, (O1.out.trans O2.out).drewN _⟩
theorem is_alloc (w : World) (T : TypeId) (xs : List Int) : Is (w.alloc (.cells (xs.map (Value.int .i64)).toArray T)) (w.alloc (.cells (xs.map (Value.int .i64)).toArray T)).heap.size (some ⟨w.heap.size, 0, none⟩) xs.length xs :=
  ⟨rfl, fun _ => ⟨w.heap.size, 0, rfl, by simp, fun k hk => by
    have h := Go.Deep.blk_alloc_new w (.cells (xs.map (Value.int .i64)).toArray T)
    rw [Nat.zero_add]
    unfold World.cell?
    simp only [h]
    simp [hk, iv, wi]⟩⟩
def numsA : List Int := [0, 2147483648, 2139095040, 4286578688, 2143289344, 1, 2139095039, 8388608, 8388607, 2147483649]
def numsB : List Int := [8388608, 2130706432, 1610612736, 536870912]
theorem numsA_in : ∀ k, k < 10 → 0 ≤ wi numsA k ∧ wi numsA k < 4294967296 := by decide
theorem numsB_in : ∀ k, k < 4 → 0 ≤ wi numsB k ∧ wi numsB k < 4294967296 := by decide
theorem from_int (z : Int) (h0 : 0 ≤ z) (h1 : z < 4294967296) (w : World) : Calls Try.prog 19 #[.int .i64 z] w fun e w' => ∃ q, e = .returned (.float .f32 q) ∧ Hid (Fv .f32 q (ab .f32 q)) ∧ w = w' := by
  obtain ⟨m, rfl⟩ := Int.eq_ofNat_of_zero_le h0
  have hm : m < 4294967296 := by omega
  exact (l01From_any m w hm).mono fun e w' ⟨h1, h2⟩ => ⟨m, h1, Lib.hid ⟨hm, rfl⟩, h2⟩
set_option maxHeartbeats 4000000 in
set_option maxRecDepth 100000 in
theorem float_any (B b K : Nat) (w : World) (h : Src B b K w) (hK : K ≤ 800000) :
    Calls Try.prog 20 #[.pointer (some ⟨b, 0, none⟩)] w fun e w' => ∃ q Q, e = .returned (.float .f32 q) ∧ Hid (Fv .f32 q Q) ∧ Src B b (K + 12) w' ∧ On b w w' := by
  have HH := Lib.hid h
  have hlt := h.lt
  clear h
  go_enter Try.func20, Try.ntmps20
  go_wp2_with fail
  refine (one_any B b K 12 w HH.out (by omega) (by omega)).mono ?_
  rintro e w1 ⟨v1, rfl, s1, o1⟩
  have S1 := Lib.hid s1; have O1 := Lib.hid o1; clear s1 o1
  cases v1
  · go_wp2_with fail
    refine (plain_any B b (K + 2) w1 S1.out (by omega)).mono ?_
    rintro e w2 ⟨q, Q, rfl, hq, s2, o2⟩
    have S2 := Lib.hid s2; have O2 := Lib.hid o2; clear s2 o2
    go_wp2
    go_ret
    exact ⟨_, _, rfl, hq, S2.out.up (by omega), O1.out.trans O2.out⟩
  · go_wp2_with fail
    refine (pick_any B b (K + 2) 4 w1 S1.out (by omega) (by omega)).mono ?_
    rintro e w2 ⟨v, rfl, a1, a2, s2, o2⟩
    have a3 := a2 (by omega)
    have S2 := Lib.hid s2; have O2 := Lib.hid (O1.out.trans o2); clear s2 o2 a2
    have hlt2 : b < w2.heap.size := S2.out.lt
    by_cases h0 : v = 0
    · subst h0
      go_wp2_with fail
      generalize hW : World.alloc _ _ = W
      have X1 : Hid (Is W W.heap.size (some ⟨w2.heap.size, 0, none⟩) 10 numsA) := Lib.hid (by rw [← hW]; exact is_alloc w2 2 numsA)
      have Z1 : Hid (W.heap.size = w2.heap.size + 1) := Lib.hid (by rw [← hW]; simp)
      have O3 : Hid (On b w W) := Lib.hid (by rw [← hW]; exact O2.out.alloc (by omega) _)
      have S3 : Hid (Src B b (K + 4) W) := Lib.hid (S2.out.on (by rw [← hW]; exact (World.Since.refl _ _).alloc (by omega) _))
      clear hW
      have hz := Z1.out
      refine (among_any B b (K + 4) w2.heap.size 10 numsA W S3.out (by omega) X1.out (by omega) (by omega) hlt2 (by omega)).mono ?_
      rintro e w3 ⟨k, rfl, hk, s4, o4⟩
      have S4 := Lib.hid s4; have O4 := Lib.hid (O3.out.trans o4); clear s4 o4
      have hm := numsA_in k hk
      generalize wi numsA k = m at *
      go_wp2_with fail
      refine (from_int m hm.1 hm.2 _).mono ?_
      rintro e w5 ⟨q, rfl, hq, rfl⟩
      go_wp2
      go_ret
      exact ⟨_, _, rfl, hq, S4.out.up (by omega), O4.out⟩
    · by_cases h1 : v = 1
      · subst h1
        go_wp2_with fail
        refine (pick_any B b (K + 4) 65536 w2 S2.out (by omega) (by omega)).mono ?_
        rintro e w3 ⟨v3, rfl, b1, b2, s3, o3⟩
        have b3 := b2 (by omega)
        have S3 := Lib.hid s3; have O3 := Lib.hid (O2.out.trans o3); clear s3 o3 b2
        go_wp2_with fail
        refine (pick_any B b (K + 4 + 2) 65536 w3 S3.out (by omega) (by omega)).mono ?_
        rintro e w4 ⟨v4, rfl, c1, c2, s4, o4⟩
        have c3 := c2 (by omega)
        have S4 := Lib.hid s4; have O4 := Lib.hid (O3.out.trans o4); clear s4 o4 c2
        go_wp2_with fail
        refine (from_int (v3 * 65536 + v4) (by omega) (by omega) _).mono ?_
        rintro e w5 ⟨q, rfl, hq, rfl⟩
        go_wp2
        go_ret
        exact ⟨_, _, rfl, hq, S4.out.up (by omega), O4.out⟩
      · by_cases h2 : v = 2
        · subst h2
          go_wp2_with fail
          refine (pick_any B b (K + 4) 65536 w2 S2.out (by omega) (by omega)).mono ?_
          rintro e w3 ⟨v3, rfl, b1, b2, s3, o3⟩
          have b3 := b2 (by omega)
          have S3 := Lib.hid s3; have O3 := Lib.hid (O2.out.trans o3); clear s3 o3 b2
          go_wp2_with fail
          refine (from_int (v3 * 65536) (by omega) (by omega) _).mono ?_
          rintro e w5 ⟨q, rfl, hq, rfl⟩
          go_wp2
          go_ret
          exact ⟨_, _, rfl, hq, S3.out.up (by omega), O3.out⟩
        · have e0 : decide (v = 0) = false := decide_eq_false h0
          have e1 : decide (v = 1) = false := decide_eq_false h1
          have e2 : decide (v = 2) = false := decide_eq_false h2
          have g0 : (v == 0) = false := by simpa using h0
          have g1 : (v == 1) = false := by simpa using h1
          have g2 : (v == 2) = false := by simpa using h2
          go_wp2_with fail
          refine (plain_any B b (K + 4) w2 S2.out (by omega)).mono ?_
          rintro e w3 ⟨q, Q, rfl, hq, s3, o3⟩
          have S3 := Lib.hid s3; have O3 := Lib.hid (O2.out.trans o3); clear s3 o3
          have hlt3 : b < w3.heap.size := S3.out.lt
          go_wp2_with fail
          generalize hW : World.alloc _ _ = W
          have X1 : Hid (Is W W.heap.size (some ⟨w3.heap.size, 0, none⟩) 4 numsB) := Lib.hid (by rw [← hW]; exact is_alloc w3 2 numsB)
          have Z1 : Hid (W.heap.size = w3.heap.size + 1) := Lib.hid (by rw [← hW]; simp)
          have O5 : Hid (On b w W) := Lib.hid (by rw [← hW]; exact O3.out.alloc (by omega) _)
          have S5 : Hid (Src B b (K + 4 + 4) W) := Lib.hid (S3.out.on (by rw [← hW]; exact (World.Since.refl _ _).alloc (by omega) _))
          clear hW
          have hz := Z1.out
          refine (among_any B b (K + 4 + 4) w3.heap.size 4 numsB W S5.out (by omega) X1.out (by omega) (by omega) hlt3 (by omega)).mono ?_
          rintro e w6 ⟨k, rfl, hk, s6, o6⟩
          have S6 := Lib.hid s6; have O6 := Lib.hid (O5.out.trans o6); clear s6 o6
          have hm := numsB_in k hk
          generalize wi numsB k = m at *
          go_wp2_with fail
          refine (from_int m hm.1 hm.2 _).mono ?_
          rintro e w7 ⟨q2, rfl, hq2, rfl⟩
          go_wp2_with (with_reducible_and_instances refine Lo.wpList_fo _ rfl _ _ _ _ _ rfl _ _ _ _ _ rfl rfl rfl (by assumption) (by assumption) ?_; intro rr nn hrr)
          go_ret
          exact ⟨_, _, rfl, hrr, (S6.out.up (by omega)).drewN _, O6.out.drewN _⟩
end Go.Proofs.Ytjfiljklohpnoaa

/- Draws: lists of numbers, and what chooses by a byte. -/
set_option linter.unusedVariables false
set_option linter.unusedSimpArgs false
namespace Go.Proofs.Ytjfiljklohpnoaa
open Fl Go.RowKit
/-- a row of numbers whatever they are -/
def RwA (lo : Nat) (w : World) (v : Value) (k : Nat) : Prop := (∃ F, Rw lo w v k F) ∧ ∃ g c, v = .slice (some ⟨g, 0, none⟩) k c
theorem Rw.like {lo : Nat} {w : World} {v : Value} {k : Nat} {F G : Nat → O} (h : Rw lo w v k F) (e : ∀ j, j < k → F j = G j) : Rw lo w v k G := by
  obtain ⟨os, h1, h2, h3⟩ := h
  exact ⟨os, h1, h2, fun j hj => (h3 j hj).trans (e j hj)⟩
theorem Rw.fin {lo : Nat} {w : World} {v : Value} {k : Nat} {F : Nat → O} (h : Rw lo w v k F) : ∃ (A : Option Addr) (c : Nat) (xs : List Nat), v = .slice A k c ∧ k ≤ c ∧ (A = none → k = 0 ∧ c = 0) ∧ (∀ a, A = some a → ∃ g, a = ⟨g, 0, none⟩ ∧ lo ≤ g) ∧ Gs 24 w lo A k xs ∧ Are ⟨A, k, xs⟩ F := by
  obtain ⟨os, h1, hs, hf⟩ := h
  rcases h1.2 with ⟨rfl, rfl⟩ | ⟨g, cap, cur, rfl, hg, _, hk, _⟩
  · exact ⟨none, 0, os, rfl, Nat.le_refl _, fun _ => ⟨rfl, rfl⟩, (fun a h => by cases h), Gs.of_own h1 hs, hf⟩
  · exact ⟨some ⟨g, 0, none⟩, cap, os, rfl, hk, (fun h => by cases h), fun a h => by cases h; exact ⟨g, rfl, hg⟩, Gs.of_own h1 hs, hf⟩
theorem RwA.grown {lo : Nat} {w : World} {v : Value} {k : Nat} {F : Nat → O} (h : Rw lo w v (k + 1) F) : RwA lo w v (k + 1) := by
  refine ⟨⟨F, h⟩, ?_⟩
  obtain ⟨A, c, xs, rfl, _, hn, hs, _⟩ := h.fin
  cases A with
  | none => exact absurd (hn rfl).1 (by omega)
  | some a =>
    obtain ⟨g, rfl, _⟩ := hs a rfl
    exact ⟨g, c, rfl⟩
theorem RwA.end_ {lo : Nat} {w : World} {v : Value} {k : Nat} (h : RwA lo w v k) : ∃ g c xs, v = .slice (some ⟨g, 0, none⟩) k c ∧ k ≤ c ∧ Gs 24 w lo (some ⟨g, 0, none⟩) k xs := by
  obtain ⟨⟨F, hF⟩, g, c, rfl⟩ := h
  obtain ⟨A, c', xs, e, hc, _, _, hg, _⟩ := hF.fin
  injection e with e1 e2 e3
  subst e1; subst e3
  exact ⟨g, c, xs, rfl, hc, hg⟩
theorem RwA.pick {lo : Nat} {w : World} {v : Value} {k : Nat} (h : RwA lo w v k) (Q : O) : ∃ F, Rw lo w v k F ∧ F k = Q := by
  obtain ⟨⟨F, hF⟩, _⟩ := h
  exact ⟨fun j => if j = k then Q else F j, hF.like fun j hj => by simp [show j ≠ k by omega], by simp⟩
theorem RwA.on {lo g : Nat} {w w' : World} {v : Value} {k : Nat} (h : RwA lo w v k) (o : On g w w') (hg : g < lo) : RwA lo w' v k := by
  obtain ⟨⟨F, hF⟩, hv⟩ := h
  exact ⟨⟨F, hF.on o hg⟩, hv⟩
/-- numbers that a call has drawn: a list in memory of its own -/
def PDr (n : Nat) (w : World) (e : Ending) (w' : World) : Prop := ∃ (g c : Nat) (xs : List Nat), e = .returned (.slice (some ⟨g, 0, none⟩) n c) ∧ n ≤ c ∧ Gs 24 w' w.heap.size (some ⟨g, 0, none⟩) n xs ∧ w.Since w.heap.size w'
set_option maxHeartbeats 4000000 in
set_option maxRecDepth 100000 in
theorem floats_any (B b K N : Nat) (w : World) (h : Src B b K w) (hK : K ≤ 100000) (hN : N ≤ 10000) :
    Calls Try.prog 27 #[.pointer (some ⟨b, 0, none⟩), .int .i64 (N : Int)] w fun e w' => ∃ (g c : Nat) (xs : List Nat), e = .returned (.slice (some ⟨g, 0, none⟩) N c) ∧ N ≤ c ∧ Gs 24 w' w.heap.size (some ⟨g, 0, none⟩) N xs ∧ Src B b (K + 2 + 12 * N) w' ∧ On b w w' := by
  have HH := Lib.hid h
  have hlt := h.lt
  clear h
  go_enter Try.func27, Try.ntmps27
  go_wp2_with fail
  generalize hW : World.alloc _ _ = W
  have R1 : Hid (RwA w.heap.size W (.slice (some ⟨w.heap.size, 0, none⟩) 0 0) 0) := Lib.hid (by rw [← hW]; exact ⟨⟨fun _ => none, Rw.start w _ (Nat.le_refl _) _⟩, _, _, rfl⟩)
  have O1 : Hid (On b w W) := Lib.hid (by rw [← hW]; exact (On.refl _ _).alloc (by omega) _)
  have S1 : Hid (Src B b K W) := Lib.hid (HH.out.on (by rw [← hW]; exact (World.Since.refl _ _).alloc (by omega) _))
  clear hW
  refine (one_any B b K 4 W S1.out (by omega) (by omega)).mono ?_
  rintro e w1 ⟨st, rfl, s2, o2⟩
  have S2 := Lib.hid s2; have O2 := Lib.hid (O1.out.trans o2); have R2 := Lib.hid (R1.out.on o2 hlt); clear s2 o2 R1 O1 S1
  cases st
  all_goals
    go_wp2_with fail
    go_loopw [1, 5] (fun i v wr => ∃ k : Nat, k ≤ N ∧ i = .int .i64 ((N : Int) - k) ∧ RwA w.heap.size wr v k ∧ Src B b (K + 2 + 12 * k) wr ∧ On b w wr) (fun i _ _ => (intOf i).toNat)
    case atStart => exact ⟨0, Nat.zero_le _, by simp, R2.out, S2.out, O2.out⟩
    case round =>
      obtain ⟨k, hk, rfl, hr, hs, ho⟩ := hrel
      have HR := Lib.hid hr; have HS := Lib.hid hs; have HO := Lib.hid ho
      clear hr hs ho
      by_cases hlt2 : k < N
      · have hd : decide (0 < (N : Int) - k) = true := decide_eq_true (by omega)
        go_wp2_with fail
        first
        | refine (plain_any B b (K + 2 + 12 * k) wr HS.out (by omega)).mono ?_
        | refine (float_any B b (K + 2 + 12 * k) wr HS.out (by omega)).mono ?_
        rintro e w3 ⟨q, Q, rfl, hq, s3, o3⟩
        have S3 : Hid (Src B b (K + 2 + 12 * (k + 1)) w3) := Lib.hid (s3.up (by omega))
        have O3 := Lib.hid (HO.out.trans o3); have R3 := Lib.hid (HR.out.on o3 hlt)
        clear s3 o3
        obtain ⟨F, hF, hFk⟩ := R3.out.pick Q
        have hlo : w.heap.size ≤ w3.heap.size := O3.out.1.size
        have HF := Lib.hid hF; clear hF
        have hz : Hid (Fv .f32 q (F k)) := by rw [hFk]; exact hq
        have hlt3 : b < w3.heap.size := by omega
        go_wp2_with (first | (at_builtin; refine wpList_app1 rfl (.tmp 20) (.tmp 23) rfl w.heap.size _ k _ rfl _ _ rfl (by simp [go_sem]) (by omega) (by simp; omega) hz (HF.out.alloc _) ?_; intro v' w4 hR4 hS4) | (at_builtin; refine wpList_app1 rfl (.tmp 15) (.tmp 18) rfl w.heap.size _ k _ rfl _ _ rfl (by simp [go_sem]) (by omega) (by simp; omega) hz (HF.out.alloc _) ?_; intro v' w4 hR4 hS4))
        have hs4 : w3.Since w.heap.size w4 := ((World.Since.refl _ _).alloc hlo _).trans hS4.out
        have HS4 := Lib.hid hs4; clear hs4
        go_roundw
        case rel => exact ⟨k + 1, by omega, by go_num, RwA.grown hR4.out, S3.out.on (since_mono HS4.out (by omega)), on_post O3.out HS4.out (Nat.le_refl _) hlt⟩
        case measure => simp [intOf]; omega
      · have hd : decide (0 < (N : Int) - k) = false := decide_eq_false (by omega)
        obtain rfl : k = N := by omega
        obtain ⟨g, cp, zs, rfl, hcp, hg⟩ := HR.out.end_
        have HG := Lib.hid hg; clear hg
        go_wp2
        go_ret
        exact ⟨g, cp, zs, rfl, hcp, HG.out, HS.out, HO.out⟩
end Go.Proofs.Ytjfiljklohpnoaa

/- Draws: what laws draw of their bytes. -/
set_option linter.unusedVariables false
set_option linter.unusedSimpArgs false
namespace Go.Proofs.Ytjfiljklohpnoaa
open Fl Go.RowKit
theorem source_any (A : Option Addr) (n c : Nat) (xs : List Int) (w : World) (h : Bs w w.heap.size A n xs) (hn : n ≤ 1048576) :
    Calls Try.prog 16 #[.slice A n c] w fun e w' => e = .returned (.pointer (some ⟨w.heap.size, 0, none⟩)) ∧ Src w.heap.size w.heap.size 0 w' ∧ w.Since w.heap.size w' := by
  have HH := Lib.hid h; clear h
  go_enter Try.func16, Try.ntmps16
  go_wp2
  go_ret
  refine ⟨rfl, ⟨A, n, c, xs, 0, 0, Go.Deep.blk_alloc_new _ _, HH.out.since ((World.Since.refl _ _).alloc (Nat.le_refl _) _) (Nat.le_refl _), Nat.le_refl _, hn, by omega, by omega⟩, (World.Since.refl _ _).alloc (Nat.le_refl _) _⟩
set_option maxHeartbeats 4000000 in
set_option maxRecDepth 100000 in
theorem numbers_any (A : Option Addr) (n c : Nat) (xs : List Int) (m : Nat) (w : World) (h : Bs w w.heap.size A n xs) (hn : n ≤ 1048576) (hm : m ≤ 9000) :
    Calls Try.prog 12 #[.slice A n c, .int .i64 (m : Int)] w (PDr m w) := by
  have HH := Lib.hid h; clear h
  go_enter Try.func12, Try.ntmps12
  go_wp2_with fail
  refine (source_any A n c xs w HH.out hn).mono ?_
  rintro e w1 ⟨rfl, s1, t1⟩
  have S1 := Lib.hid s1; have T1 := Lib.hid t1; clear s1 t1
  go_wp2_with fail
  refine (floats_any w.heap.size w.heap.size 0 m w1 S1.out (by omega) (by omega)).mono ?_
  rintro e w3 ⟨g, cp, zs, rfl, hp, hg, s3, o3⟩
  have hz := T1.out.size
  have G3 := Lib.hid (hg.less hz); have T3 := Lib.hid (T1.out.trans (o3.since (Nat.le_refl _))); clear hg s3 o3
  go_wp2
  go_ret
  exact ⟨g, cp, zs, rfl, hp, G3.out, T3.out⟩
set_option maxHeartbeats 4000000 in
set_option maxRecDepth 100000 in
theorem numberD_any (A : Option Addr) (n c : Nat) (xs : List Int) (w : World) (h : Bs w w.heap.size A n xs) (hn : n ≤ 1048576) :
    Calls Try.prog 5 #[.slice A n c] w fun e w' => ∃ q Q, e = .returned (.float .f32 q) ∧ Hid (Fv .f32 q Q) ∧ w.Since w.heap.size w' := by
  have HH := Lib.hid h; clear h
  go_enter Try.func5, Try.ntmps5
  go_wp2_with fail
  refine (source_any A n c xs w HH.out hn).mono ?_
  rintro e w1 ⟨rfl, s1, t1⟩
  have S1 := Lib.hid s1; have T1 := Lib.hid t1; clear s1 t1
  go_wp2_with fail
  refine (one_any w.heap.size w.heap.size 0 2 w1 S1.out (by omega) (by omega)).mono ?_
  rintro e w2 ⟨v, rfl, s2, o2⟩
  have S2 := Lib.hid s2; have T2 := Lib.hid (T1.out.trans (o2.since (Nat.le_refl _))); clear s2 o2
  cases v
  · go_wp2_with fail
    refine (float_any w.heap.size w.heap.size 2 w2 S2.out (by omega)).mono ?_
    rintro e w3 ⟨q, Q, rfl, hq, s3, o3⟩
    have T3 := Lib.hid (T2.out.trans (o3.since (Nat.le_refl _))); clear s3 o3
    go_wp2
    go_ret
    exact ⟨_, _, rfl, hq, T3.out⟩
  · go_wp2_with fail
    refine (pick_any w.heap.size w.heap.size 2 65536 w2 S2.out (by omega) (by omega)).mono ?_
    rintro e w3 ⟨v3, rfl, b1, b2, s3, o3⟩
    have b3 := b2 (by omega)
    have S3 := Lib.hid s3; have T3 := Lib.hid (T2.out.trans (o3.since (Nat.le_refl _))); clear s3 o3 b2
    go_wp2_with fail
    refine (pick_any w.heap.size w.heap.size (2 + 2) 65536 w3 S3.out (by omega) (by omega)).mono ?_
    rintro e w4 ⟨v4, rfl, c1, c2, s4, o4⟩
    have c3 := c2 (by omega)
    have T4 := Lib.hid (T3.out.trans (o4.since (Nat.le_refl _))); clear s4 o4 c2
    go_wp2_with fail
    refine (from_int (v3 * 65536 + v4) (by omega) (by omega) _).mono ?_
    rintro e w5 ⟨q, rfl, hq, rfl⟩
    go_wp2
    go_ret
    exact ⟨_, _, rfl, hq, T4.out⟩
theorem b10At_any (A : Option Addr) (n c : Nat) (xs : List Int) (k m : Int) (w : World) (h : Bs w w.heap.size A n xs) (hk : 0 ≤ k) (hk2 : k ≤ 1000000000) :
    Calls Try.prog 11 #[.slice A n c, .int .i64 k, .int .i64 m] w fun e w' => ∃ v : Int, e = .returned (.int .i64 v) ∧ 0 ≤ v ∧ (1 ≤ m → v < m) ∧ w.Since w.heap.size w' := by
  have HH := Lib.hid h; clear h
  obtain ⟨j, rfl⟩ := Int.eq_ofNat_of_zero_le hk
  by_cases h1 : m ≤ 1
  · have hd : decide (m ≤ 1) = true := decide_eq_true h1
    go_enter Try.func11, Try.ntmps11
    go_wp2
    go_ret
    exact ⟨0, rfl, by omega, fun _ => by omega, by (repeat (first | (with_reducible refine Fl.sinDrew ?_) | (with_reducible refine World.Since.drew ?_) | (with_reducible refine Fl.sinSet ?_ ?_; rotate_left) | (with_reducible refine Fl.sinAlloc ?_ ?_; rotate_left) | with_reducible exact World.Since.refl _ _ | with_reducible assumption | (with_reducible refine Fl.sinStep (by with_reducible assumption) ?_))); all_goals (first | omega | (simp; done) | (simp; omega) | (simp [go_sem]; done) | (simp [go_sem]; omega))⟩
  · have hd : decide (m ≤ 1) = false := decide_eq_false h1
    have hz : m ≠ 0 := by omega
    by_cases h2 : (j : Int) < (n : Int)
    · have hd2 : decide ((j : Int) < (n : Int)) = true := decide_eq_true h2
      obtain ⟨g, off, rfl, hg, hc⟩ := HH.out.2.2 (by omega)
      have hcell := hc j (by omega)
      have hv := HH.out.2.1 j
      clear hc
      go_enter Try.func11, Try.ntmps11
      go_wp2
      go_ret
      exact ⟨_, rfl, Int.emod_nonneg _ hz, fun _ => Int.emod_lt_of_pos _ (by omega), by (repeat (first | (with_reducible refine Fl.sinDrew ?_) | (with_reducible refine World.Since.drew ?_) | (with_reducible refine Fl.sinSet ?_ ?_; rotate_left) | (with_reducible refine Fl.sinAlloc ?_ ?_; rotate_left) | with_reducible exact World.Since.refl _ _ | with_reducible assumption | (with_reducible refine Fl.sinStep (by with_reducible assumption) ?_))); all_goals (first | omega | (simp; done) | (simp; omega) | (simp [go_sem]; done) | (simp [go_sem]; omega))⟩
    · have hd2 : decide ((j : Int) < (n : Int)) = false := decide_eq_false h2
      go_enter Try.func11, Try.ntmps11
      go_wp2
      go_ret
      exact ⟨_, rfl, Int.emod_nonneg _ hz, fun _ => Int.emod_lt_of_pos _ (by omega), by (repeat (first | (with_reducible refine Fl.sinDrew ?_) | (with_reducible refine World.Since.drew ?_) | (with_reducible refine Fl.sinSet ?_ ?_; rotate_left) | (with_reducible refine Fl.sinAlloc ?_ ?_; rotate_left) | with_reducible exact World.Since.refl _ _ | with_reducible assumption | (with_reducible refine Fl.sinStep (by with_reducible assumption) ?_))); all_goals (first | omega | (simp; done) | (simp; omega) | (simp [go_sem]; done) | (simp [go_sem]; omega))⟩
theorem b10Long_any (A B : Option Addr) (n c m d : Nat) (b : Bool) (w : World) (h : (decide ((1048576 : Int) < n) || decide ((1048576 : Int) < m)) = b) :
    Calls Try.prog 4 #[.slice A n c, .slice B m d] w fun e w' => e = .returned (.bool b) ∧ w.Since w.heap.size w' := by
  subst h
  cases h1 : decide ((1048576 : Int) < n)
  all_goals
    go_enter Try.func4, Try.ntmps4
    go_wp2
    go_ret
    exact ⟨ret_bool (by simp), by (repeat (first | (with_reducible refine Fl.sinDrew ?_) | (with_reducible refine World.Since.drew ?_) | (with_reducible refine Fl.sinSet ?_ ?_; rotate_left) | (with_reducible refine Fl.sinAlloc ?_ ?_; rotate_left) | with_reducible exact World.Since.refl _ _ | with_reducible assumption | (with_reducible refine Fl.sinStep (by with_reducible assumption) ?_))); all_goals (first | omega | (simp; done) | (simp; omega) | (simp [go_sem]; done) | (simp [go_sem]; omega))⟩
end Go.Proofs.Ytjfiljklohpnoaa

/- A slice of integers that came in. -/
set_option linter.unusedVariables false
set_option linter.unusedSimpArgs false
namespace Go.Proofs.Ytjfiljklohpnoaa
namespace Fl
open Go.ChangeShapes Go.WideShapes Go.RowKit Go.WideMaps Go.WideElems
section
variable {H : Type} {enc : TypeId × Value → H} {P : Program}
theorem trod_in {w : World} {base : Nat} {spare : Nat → Bool} {held : Bool} {fuel : Nat} {t : TypeId} {k : IntKind} {cs : List Value} {x : DataW H × List MemPlace} (ht : P.underlying t = some (.int k))
    (h : DataW.trod enc P w base spare held fuel t cs = some x) : ∃ b, cs = [.int k b] ∧ (Lit.int k b).wf = true := by
  cases fuel with
  | zero => simp [DataW.trod] at h
  | succ n =>
    unfold DataW.trod at h
    rw [ht] at h
    split at h <;> simp_all
theorem open_is {W : World} {base b0 : Nat} {r : Reach} {t e : TypeId} {v : Value} {d : DataW H} {ps : List MemPlace} (ht : P.underlying t = some (.slice e)) (he : P.underlying e = some (.int .i64)) (hc : P.cellsOf e = 1)
    (hval : Value.okWide P W r b0 t v) (h : DataW.Trod enc P W base (fun _ => true) true t v d ps) :
    ∃ (A : Option Addr) (n c : Nat) (xs : List Int), v = .slice A n c ∧ (Is W W.heap.size A n xs ∧ ∀ k, k < n → (Lit.int .i64 (wi xs k)).wf = true) ∧ n ≤ 9223372036854775807 := by
  obtain ⟨A, n, c, rfl⟩ := okWide_slice ht hval
  obtain ⟨fuel, hf⟩ := h
  rcases Go.Deep.open_slice ht hf with ⟨hcs, _⟩ | ⟨a, len, cap, m, k, D, Pl, hcs, _, hl, hm, hmm, _, hi⟩
  · simp only [Value.cells, Array.toList] at hcs
    injection hcs with hcs _
    injection hcs with h1 h2 h3
    subst h1; subst h2; subst h3
    exact ⟨none, 0, 0, [], rfl, ⟨⟨rfl, (fun h => by omega)⟩, (fun k h => by omega)⟩, by omega⟩
  · simp only [Value.cells, Array.toList] at hcs
    injection hcs with hcs _
    injection hcs with h1 h2 h3
    subst h1; subst h2; subst h3
    rw [if_pos rfl] at hmm
    subst hmm
    have hcell : ∀ i, i < m → ∃ b : Int, W.cell? (a.add i) = some (.int .i64 b) ∧ (Lit.int .i64 b).wf = true := by
      intro i him
      obtain ⟨cs', hcs', htr⟩ := hi i him
      rw [hc, Nat.mul_one] at hcs'
      obtain ⟨_, hlen, hat⟩ := World.cells?_some hcs'
      obtain ⟨b, hb, hw⟩ := trod_in he htr
      have h0 := hat 0 (by omega)
      rw [hb] at h0
      refine ⟨b, ?_, hw⟩
      have e : (a.add i).add 0 = a.add i := by simp [Addr.add]
      rw [e] at h0
      exact h0
    let f : Nat → Int := fun i => if h : i < m then Classical.choose (hcell i h) else 0
    have hfs : ∀ i (h : i < m), W.cell? (a.add i) = some (.int .i64 (f i)) ∧ (Lit.int .i64 (f i)).wf = true := by
      intro i h
      have := Classical.choose_spec (hcell i h)
      simp only [f, dif_pos h]
      exact this
    refine ⟨some a, n, m, (List.range n).map f, rfl, ⟨⟨by simp, ?_⟩, ?_⟩, by unfold maxLen at hm; omega⟩
    · intro hn
      obtain ⟨g, off, spot⟩ := a
      have h0 := (hfs 0 (by omega)).1
      have hspot : spot = none := by simpa [Addr.add] using World.cell?_spot h0
      subst hspot
      refine ⟨g, off, rfl, ?_, fun k hk => ?_⟩
      · have h1 : W.cell? ⟨g, off, none⟩ = some (.int .i64 (f 0)) := by simpa [Addr.add] using h0
        rcases Nat.lt_or_ge g W.heap.size with h2 | h2
        · exact h2
        · simp [World.cell?, Array.getElem?_eq_none h2] at h1
      · have h1 := (hfs k (by omega)).1
        rw [Go.WideShapes.add_plain] at h1
        rw [h1]
        unfold iv wi
        simp [hk]
    · intro k hk
      have h1 := (hfs k (by omega)).2
      unfold wi
      simpa [hk] using h1
end
end Fl
end Go.Proofs.Ytjfiljklohpnoaa

/- Draws: lists that a law compares, and the bytes of a law. -/
set_option linter.unusedVariables false
set_option linter.unusedSimpArgs false
namespace Go.Proofs.Ytjfiljklohpnoaa
open Fl Go.RowKit
namespace Fl
open Go.ChangeShapes Go.WideShapes Go.RowKit Go.WideMaps Go.WideElems
section
variable {H : Type} {enc : TypeId × Value → H} {P : Program}
theorem open_bs {W : World} {base b0 : Nat} {r : Reach} {t e : TypeId} {v : Value} {d : DataW H} {ps : List MemPlace} (ht : P.underlying t = some (.slice e)) (he : P.underlying e = some (.int .u8)) (hc : P.cellsOf e = 1)
    (hval : Value.okWide P W r b0 t v) (h : DataW.Trod enc P W base (fun _ => true) true t v d ps) :
    ∃ (A : Option Addr) (n c : Nat) (xs : List Int), v = .slice A n c ∧ Bs W W.heap.size A n xs ∧ n ≤ 9223372036854775807 := by
  obtain ⟨A, n, c, rfl⟩ := okWide_slice ht hval
  obtain ⟨fuel, hf⟩ := h
  rcases Go.Deep.open_slice ht hf with ⟨hcs, _⟩ | ⟨a, len, cap, m, k, D, Pl, hcs, _, hl, hm, hmm, _, hi⟩
  · simp only [Value.cells, Array.toList] at hcs
    injection hcs with hcs _
    injection hcs with h1 h2 h3
    subst h1; subst h2; subst h3
    exact ⟨none, 0, 0, [], rfl, ⟨rfl, (fun k => by simp [wi]), (fun h => by omega)⟩, by omega⟩
  · simp only [Value.cells, Array.toList] at hcs
    injection hcs with hcs _
    injection hcs with h1 h2 h3
    subst h1; subst h2; subst h3
    rw [if_pos rfl] at hmm
    subst hmm
    have hcell : ∀ i, i < m → ∃ b : Int, W.cell? (a.add i) = some (.int .u8 b) ∧ (Lit.int .u8 b).wf = true := by
      intro i him
      obtain ⟨cs', hcs', htr⟩ := hi i him
      rw [hc, Nat.mul_one] at hcs'
      obtain ⟨_, hlen, hat⟩ := World.cells?_some hcs'
      obtain ⟨b, hb, hw⟩ := trod_in he htr
      have h0 := hat 0 (by omega)
      rw [hb] at h0
      refine ⟨b, ?_, hw⟩
      have e : (a.add i).add 0 = a.add i := by simp [Addr.add]
      rw [e] at h0
      exact h0
    let f : Nat → Int := fun i => if h : i < m then Classical.choose (hcell i h) else 0
    have hfs : ∀ i (h : i < m), W.cell? (a.add i) = some (.int .u8 (f i)) ∧ (Lit.int .u8 (f i)).wf = true := by
      intro i h
      have := Classical.choose_spec (hcell i h)
      simp only [f, dif_pos h]
      exact this
    have hw8 : ∀ i, 0 ≤ f i ∧ f i < 256 := by
      intro i
      by_cases h : i < m
      · have h1 := (hfs i h).2
        simp only [Lit.wf, Bool.and_eq_true, decide_eq_true_eq] at h1
        have e1 : IntKind.min .u8 = 0 := by kernel_rfl
        have e2 : IntKind.max .u8 = 255 := by kernel_rfl
        rw [e1, e2] at h1
        omega
      · simp [f, h]
    refine ⟨some a, n, m, (List.range n).map f, rfl, ⟨by simp, ?_, ?_⟩, by unfold maxLen at hm; omega⟩
    · intro k
      unfold wi
      by_cases hk : k < n
      · simpa [hk] using hw8 k
      · simp [hk]
    · intro hn
      obtain ⟨g, off, spot⟩ := a
      have h0 := (hfs 0 (by omega)).1
      have hspot : spot = none := by simpa [Addr.add] using World.cell?_spot h0
      subst hspot
      refine ⟨g, off, rfl, ?_, fun k hk => ?_⟩
      · have h1 : W.cell? ⟨g, off, none⟩ = some (.int .u8 (f 0)) := by simpa [Addr.add] using h0
        rcases Nat.lt_or_ge g W.heap.size with h2 | h2
        · exact h2
        · simp [World.cell?, Array.getElem?_eq_none h2] at h1
      · have h1 := (hfs k (by omega)).1
        rw [Go.WideShapes.add_plain] at h1
        rw [h1]
        unfold wi
        simp [hk]
end
end Fl
end Go.Proofs.Ytjfiljklohpnoaa

/- Dynamics: the program's gate, all samples. -/
set_option linter.unusedVariables false
set_option linter.unusedSimpArgs false
namespace Go.Proofs.Ytjfiljklohpnoaa
open Fl Go.RowKit
end Go.Proofs.Ytjfiljklohpnoaa

/- Folds: rows of floats that whole lists are appended to; the model's fold. -/
set_option linter.unusedVariables false
set_option linter.unusedSimpArgs false
namespace Go.Proofs.Ytjfiljklohpnoaa
open Fl Go.RowKit
theorem fvl_app (xs ys : List Nat) : fvl xs ++ fvl ys = fvl (xs ++ ys) := by unfold fvl; simp
theorem wd_app (xs ys : List Nat) (j : Nat) : wd (xs ++ ys) j = if j < xs.length then wd xs j else wd ys (j - xs.length) := by
  unfold wd
  split
  · next h => simp [List.getD_eq_getElem?_getD, List.getElem?_append_left h]
  · next h => simp [List.getD_eq_getElem?_getD, List.getElem?_append_right (Nat.le_of_not_lt h)]
set_option maxRecDepth 100000 in
theorem wpList_appN {ops : Array Oper} {rest : List Oper} {o : Oper} {a : Act} {Q : Exit → Act → World → Prop} {w : World} (hgd : o.guard = none) (s x : Operand)
    (ho : o.op = .call { callee := .builtin .append, args := #[s, x], argTypes := #[33, 33] }) (lo : Nat) (v : Value) (k : Nat) (F : Nat → O) (hs : a.eval s = v) (A : Option Addr) (m c : Nat) (xs : List Nat) (B : Nat)
    (hx : a.eval x = .slice A m c) (hnone : A = none → m = 0 ∧ c = 0) (hA : Hid (Fs w B A m xs)) (hF : ∀ j, j < m → F (k + j) = ab .f32 (wd xs j)) (hk : k + m ≤ 1048576) (hlo : lo ≤ w.heap.size) (hR : Rw lo w v k F)
    (h : ∀ v' w', Hid (Rw lo w' v' (k + m) F) → Hid (w.Since lo w') → wpList Try.prog ops Q rest (a.put o.dst v') w') : wpList Try.prog ops Q (o :: rest) a w := by
  obtain ⟨os, h1, h2, h3⟩ := hR
  obtain ⟨i0, hi, hz0, hz1, hz2⟩ := info_parts Try.infoF
  have HA := hA.out
  cases A with
  | none =>
    obtain ⟨rfl, rfl⟩ := hnone rfl
    exact wpList_append_own_none (P := Try.prog) hgd s x 33 ho lo 24 i0 1 Try.underlying33 hi v k (fvl os) (by rw [hs]) h1 hx (h v w (Lib.hid ⟨os, h1, h2, h3⟩) (Lib.hid (World.Since.refl _ _)))
  | some ad =>
  refine wpList_append_own (P := Try.prog) w hgd s x 33 ho lo 24 i0 (.float .f32 0) 1 4 Try.underlying33 hi hz0 hz1 hz2 rfl (by omega) v k (fvl os) hs h1 ad m c (fvl xs) hx ?_ ?_ ?_ ?_ ?_ hlo ?_
  · rw [fvl, List.length_map, HA.1, Nat.mul_one]
  · intro j u hj
    have hlt : j < m := by
      have := (List.getElem?_eq_some_iff.1 hj).1
      rw [fvl, List.length_map, HA.1] at this; exact this
    obtain ⟨g, off, e, _, hc⟩ := HA.2.2 (by omega)
    injection e with e
    subst e
    have := hc j hlt
    rw [show (Addr.mk g off none).add j = ⟨g, off + j, none⟩ by simp [Addr.add], this]
    rw [← hj]
    unfold fvl fv wd
    simp [List.getD_eq_getElem?_getD, List.getElem?_eq_getElem (show j < xs.length by rw [HA.1]; exact hlt)]
  · intro u hu
    obtain ⟨x, _, rfl⟩ := List.mem_map.1 hu
    rfl
  · unfold maxLen; omega
  · omega
  · intro v' w' hown hg _
    have hyl : os.length = k := by simpa [fvl] using h1.1
    refine h v' w' (Lib.hid ⟨os ++ xs, ?_, fun x hx => ?_, fun j hj => ?_⟩) (Lib.hid ⟨hg.os, hg.tape, hg.output, hg.size, fun i hi => ?_⟩)
    · rw [← fvl_app]; exact hown
    · rcases List.mem_append.1 hx with h4 | h4
      · exact h2 x h4
      · exact HA.2.1 x h4
    · rw [wd_app, hyl]
      by_cases e : j < k
      · rw [if_pos e]; exact h3 j e
      · rw [if_neg e, ← hF (j - k) (by omega)]; congr 1; omega
    · refine hg.block i (by omega) fun e => ?_
      have := own_lo h1 i e.symm
      omega
theorem Rw.end_ {lo : Nat} {w : World} {v : Value} {k : Nat} {F : Nat → O} (h : Rw lo w v k F) : ∃ (A : Option Addr) (c : Nat) (xs : List Nat), v = .slice A k c ∧ k ≤ c ∧ (A = none → k = 0 ∧ c = 0) ∧ (∀ a, A = some a → ∃ g, a = ⟨g, 0, none⟩ ∧ lo ≤ g) ∧ Gs 24 w lo A k xs ∧ Are ⟨A, k, xs⟩ F := by
  obtain ⟨os, h1, hs, hf⟩ := h
  rcases h1.2 with ⟨rfl, rfl⟩ | ⟨g, cap, cur, rfl, hg, _, hk, _⟩
  · exact ⟨none, 0, os, rfl, Nat.le_refl _, fun _ => ⟨rfl, rfl⟩, (fun a h => by cases h), Gs.of_own h1 hs, hf⟩
  · exact ⟨some ⟨g, 0, none⟩, cap, os, rfl, hk, (fun h => by cases h), fun a h => by cases h; exact ⟨g, rfl, hg⟩, Gs.of_own h1 hs, hf⟩
theorem Fs.nil_ {w : World} {A : Option Addr} : Fs w 0 A 0 [] := ⟨rfl, (fun x hx => by cases hx), (fun h => by omega)⟩
/-- the last ones of a list -/
theorem Fs.tail {w : World} {B n m : Nat} {g off : Nat} {xs : List Nat} (h : Fs w B (some ⟨g, off, none⟩) (n + m) xs) : Fs w B (some ⟨g, off + n, none⟩) m (xs.drop n) :=
  ⟨by rw [List.length_drop, h.1]; omega, fun x hx => h.2.1 x (List.mem_of_mem_drop hx), fun hm => by
    obtain ⟨g', off', e, hg, hc⟩ := h.2.2 (by omega)
    injection e with e
    injection e with e1 e2 _
    subst e1; subst e2
    refine ⟨g, off + n, rfl, hg, fun k hk => ?_⟩
    have := hc (n + k) (by omega)
    rw [← Nat.add_assoc] at this
    rw [this]
    unfold fv wd
    simp [List.getD_eq_getElem?_getD]⟩
theorem wd_drop (xs : List Nat) (n k : Nat) : wd (xs.drop n) k = wd xs (n + k) := by unfold wd; simp [List.getD_eq_getElem?_getD]
def apO (xs ys : List Nat) (n j : Nat) : O := if j < n then ab .f32 (wd xs j) else ab .f32 (wd ys (j - n))
def fsum (T Z : Nat → O) (p : Nat) : Nat → O
  | 0 => some 0
  | k + 1 => opO .add .f32 (fsum T Z p k) (opO .mul .f32 (T k) (Z (p - k)))
def foldF (T Z : Nat → O) (l t i : Nat) : O := fsum T Z (l + i) t
def offO (Z : Nat → O) (n j : Nat) : O := Z (n + j)
def PEE (n0 : Nat) (f0 : Nat → O) (n1 : Nat) (f1 : Nat → O) (w : World) (e : Ending) (w' : World) : Prop :=
  ∃ (p q : Ls) (c d : Nat), e = .returned (.tuple #[.slice p.A p.n c, .slice q.A q.n d]) ∧ Hid (p.n = n0) ∧ Hid (q.n = n1) ∧ Hid (Ge w.heap.size w' (fe p.A p.n p.xs)) ∧ Hid (Ge w.heap.size w' (fe q.A q.n q.xs)) ∧ Hid (Are p f0) ∧ Hid (Are q f1) ∧ Hid (De (fe p.A p.n p.xs) (fe q.A q.n q.xs)) ∧ Hid (w.Since w.heap.size w')
end Go.Proofs.Ytjfiljklohpnoaa

/- Draws: the gate as a list of its own, blocks of it, and when it is open. -/
set_option linter.unusedVariables false
set_option linter.unusedSimpArgs false
namespace Go.Proofs.Ytjfiljklohpnoaa
open Fl Go.RowKit
/-- a list of numbers in a block of its own, with the places behind it -/
def PLIBo (n : Nat) (f : Nat → O) (i : Int) (b : Bool) (w : World) (e : Ending) (w' : World) : Prop :=
  ∃ (g c : Nat) (xs : List Nat), e = .returned (.tuple #[.slice (some ⟨g, 0, none⟩) n c, .int .i64 i, .bool b]) ∧ n ≤ c ∧ Gs 24 w' w.heap.size (some ⟨g, 0, none⟩) n xs ∧ Are ⟨some ⟨g, 0, none⟩, n, xs⟩ f ∧ w.Since w.heap.size w'
/-! blocks -/
theorem gateH_cut (X : Nat → O) (T : O) (hold held : Int) (a : Nat) : ∀ k, gateH (fun j => X (a + j)) T hold (gateH X T hold held a) k = gateH X T hold held (a + k)
  | 0 => rfl
  | k + 1 => by
    show (if geO (sizeO (X (a + k))) T then hold else _) = (if geO (sizeO (X (a + k))) T then hold else _)
    rw [gateH_cut X T hold held a k]
    rfl
theorem gateY_cut (X : Nat → O) (T : O) (hold held : Int) (a k : Nat) : gateY (fun j => X (a + j)) T hold (gateH X T hold held a) k = gateY X T hold held (a + k) := by
  unfold gateY
  rw [gateH_cut]
theorem gateH_like {X Y : Nat → O} {T : O} {hold held : Int} {n : Nat} (h : ∀ k, k < n → X k = Y k) : ∀ k, k ≤ n → gateH X T hold held k = gateH Y T hold held k
  | 0, _ => rfl
  | k + 1, hk => by
    unfold gateH
    rw [gateH_like h k (by omega), h k (by omega)]
theorem gateY_like {X Y : Nat → O} {T : O} {hold held : Int} {n : Nat} (h : ∀ k, k < n → X k = Y k) (k : Nat) (hk : k < n) : gateY X T hold held k = gateY Y T hold held k := by
  unfold gateY
  rw [gateH_like h k (by omega), h k hk]
/-! when it is open -/
/-- the last loud place before k -/
def lastO (X : Nat → O) (T : O) : Nat → Int
  | 0 => -1
  | k + 1 => if geO (sizeO (X k)) T then (k : Int) else lastO X T k
theorem lastO_in (X : Nat → O) (T : O) : ∀ k, -1 ≤ lastO X T k ∧ lastO X T k < (k : Int)
  | 0 => by unfold lastO; omega
  | k + 1 => by
    have := lastO_in X T k
    unfold lastO
    split <;> omega
theorem gateH_last (X : Nat → O) (T : O) (hold : Int) (h0 : 0 ≤ hold) : ∀ k, gateH X T hold 0 k = if 0 ≤ lastO X T k ∧ (k : Int) - 1 - lastO X T k ≤ hold then hold - ((k : Int) - 1 - lastO X T k) else 0
  | 0 => by unfold gateH lastO; simp
  | k + 1 => by
    have ih := gateH_last X T hold h0 k
    have hi := lastO_in X T k
    unfold gateH lastO
    by_cases h : geO (sizeO (X k)) T = true
    · rw [if_pos h, if_pos h, if_pos (by omega)]; omega
    · rw [if_neg h, if_neg h, ih]
      by_cases h1 : 0 ≤ lastO X T k ∧ (k : Int) - 1 - lastO X T k ≤ hold
      · rw [if_pos h1]
        by_cases h2 : 0 < hold - ((k : Int) - 1 - lastO X T k)
        · rw [if_pos h2, if_pos (by omega)]; omega
        · rw [if_neg h2, if_neg (by omega)]; omega
      · rw [if_neg h1, if_neg (by omega), if_neg (by omega)]
theorem gateY_open (X : Nat → O) (T : O) (hold : Int) (h0 : 0 ≤ hold) (k : Nat) : gateY X T hold 0 k = if 0 ≤ lastO X T (k + 1) ∧ (k : Int) - lastO X T (k + 1) ≤ hold then X k else some 0 := by
  have hH := gateH_last X T hold h0 k
  have hi := lastO_in X T k
  unfold gateY lastO
  by_cases h : geO (sizeO (X k)) T = true
  · rw [if_pos h, if_pos h, if_pos (by omega)]
  · rw [if_neg h, if_neg h, hH]
    by_cases h1 : 0 ≤ lastO X T k ∧ (k : Int) - lastO X T k ≤ hold
    · rw [if_pos h1, if_pos (by rw [if_pos (by omega)]; omega)]
    · rw [if_neg h1, if_neg]
      split <;> omega
/-! the greater one of a number and its opposite -/
theorem neg32 (b : Nat) (h : b < 4294967296) : Op.negFloat .f32 b = if b < 2147483648 then b + 2147483648 else b - 2147483648 := by
  have e2 := neg_mod .f32 b
  rw [sw32] at e2
  unfold Op.negFloat at e2 ⊢
  have e3 : (b ^^^ (2 ^ (FloatKind.f32.format.exponentBits + FloatKind.f32.format.fractionBits))) / 2147483648 = (b / 2147483648) ^^^ 1 := by
    rw [show (2 : Nat) ^ (FloatKind.f32.format.exponentBits + FloatKind.f32.format.fractionBits) = 2 ^ 31 by decide, show (2147483648 : Nat) = 2 ^ 31 by decide, ← Nat.shiftRight_eq_div_pow, Nat.shiftRight_xor_distrib, Nat.shiftRight_eq_div_pow, Nat.shiftRight_eq_div_pow]
  by_cases hb : b < 2147483648
  · rw [show b / 2147483648 = 0 by omega] at e3
    rw [if_pos hb]
    have : (0 ^^^ 1 : Nat) = 1 := by decide
    omega
  · rw [show b / 2147483648 = 1 by omega] at e3
    rw [if_neg hb]
    have : (1 ^^^ 1 : Nat) = 0 := by decide
    omega
theorem ge_key {x t : Nat} (hx : ab .f32 x = some x) (ht : ab .f32 t = some t) : geO (some x) (some t) = decide (key .f32 t ≤ key .f32 x) := by
  unfold geO gtO eqO ordO
  show ((FloatKind.f32.format.order x t == some .gt) || (FloatKind.f32.format.order x t == some .eq)) = _
  rw [order_key .f32 hx ht, cmp_def]
  rcases Int.lt_trichotomy (key .f32 x) (key .f32 t) with h | h | h
  · rw [if_pos h, decide_eq_false (by omega)]; rfl
  · rw [if_neg (by omega), if_pos h, decide_eq_true (by omega)]; rfl
  · rw [if_neg (by omega), if_neg (by omega), decide_eq_true (by omega)]; rfl
theorem ge_none (X : O) : geO X none = false := by cases X <;> rfl
theorem ge_size (x : Nat) (hx : x < 4294967296) (T : O) (t : Nat) (ht : Fv .f32 t T) : geO (sizeO (ab .f32 x)) T = (geO (ab .f32 x) T || geO (ab .f32 (Op.negFloat .f32 x)) T) := by
  obtain ⟨ht1, ht2⟩ := ht
  subst ht2
  have ht1' : t < 4294967296 := ht1
  have hm := neg_mod .f32 x
  rw [sw32] at hm
  rw [ab32 t]
  split
  · rw [ge_none, ge_none, ge_none]; rfl
  · next h1 =>
    rw [ab32 x, ab32 (Op.negFloat .f32 x), hm]
    by_cases h2 : 2139095040 < x % 2147483648
    · rw [if_pos h2, if_pos h2]; rfl
    · rw [if_neg h2, if_neg h2]
      have a1 : ab .f32 t = some t := by rw [ab32, if_neg h1]
      have a2 : ab .f32 x = some x := by rw [ab32, if_neg h2]
      have a3 : ab .f32 (Op.negFloat .f32 x) = some (Op.negFloat .f32 x) := by rw [ab32, hm, if_neg h2]
      have a4 : ab .f32 (sizeN x) = some (sizeN x) := by unfold sizeN; rw [ab32, Nat.mod_mod, if_neg h2]
      show geO (some (sizeN x)) (some t) = _
      rw [ge_key a4 a1, ge_key a2 a1, ge_key a3 a1]
      have hn := neg32 x hx
      have l3 : Op.negFloat .f32 x < 4294967296 := neg_lt .f32 hx
      have l4 : sizeN x < 4294967296 := sizeN_lt x
      rw [key32 _ l4, key32 _ hx, key32 _ l3, hn]
      unfold sizeN
      rw [← Bool.decide_or]
      congr 1
      by_cases hb : x < 2147483648
      · rw [if_pos (by omega), if_pos hb, if_pos hb, if_neg (by omega)]
        apply propext; constructor
        · intro h; left; omega
        · intro h; omega
      · rw [if_pos (by omega), if_neg hb, if_neg hb, if_pos (by omega)]
        apply propext; constructor
        · intro h; right; omega
        · intro h; omega
end Go.Proofs.Ytjfiljklohpnoaa

/- The law of gates. -/
set_option linter.unusedVariables false
set_option linter.unusedSimpArgs false
namespace Go.Proofs.Ytjfiljklohpnoaa
open Fl Go.RowKit
theorem Fs.head {w : World} {B n m : Nat} {A : Option Addr} {xs : List Nat} (h : Fs w B A n xs) (hm : m ≤ n) : Fs w B A m (xs.take m) :=
  ⟨by rw [List.length_take, h.1]; omega, fun x hx => h.2.1 x (List.mem_of_mem_take hx), fun h0 => by
    obtain ⟨g, off, e, hg, hc⟩ := h.2.2 (by omega)
    refine ⟨g, off, e, hg, fun k hk => ?_⟩
    rw [hc k (by omega)]
    unfold fv wd
    simp [List.getD_eq_getElem?_getD, List.getElem?_take, hk]⟩
theorem wd_take (xs : List Nat) (m k : Nat) (h : k < m) : wd (xs.take m) k = wd xs k := by unfold wd; simp [List.getD_eq_getElem?_getD, List.getElem?_take, h]
theorem Fs.tail0 {w : World} {B n m : Nat} {g : Nat} {xs : List Nat} (h : Fs w B (some ⟨g, 0, none⟩) n xs) (hm : m ≤ n) : Fs w B (some ⟨g, m, none⟩) (n - m) (xs.drop m) := by
  have h1 := Fs.tail (n := m) (m := n - m) (g := g) (off := 0) (w := w) (B := B) (xs := xs) (by rw [show m + (n - m) = n by omega]; exact h)
  rwa [Nat.zero_add] at h1
theorem Fs.cell0 {w : World} {B n g k : Nat} {xs : List Nat} (h : Fs w B (some ⟨g, 0, none⟩) n xs) (hk : k < n) : w.cell? ⟨g, k, none⟩ = some (.float .f32 (wd xs k)) ∧ g < B := by
  obtain ⟨g', off, e, hg, hc⟩ := h.2.2 (by omega)
  injection e with e
  injection e with e1 e2 _
  subst e1; subst e2
  have := hc k hk
  rw [Nat.zero_add] at this
  exact ⟨this, hg⟩
/-- an operation whose guard says yes, as one without a guard -/
theorem wpList_yes {ops : Array Oper} {rest : List Oper} {o : Oper} {a : Act} {Q : Exit → Act → World → Prop} {w : World} (hw : Region.wanted o (yielded ops a.tmps) = true)
    (h : wpList Try.prog ops Q ({ o with guard := none } :: rest) a w) : wpList Try.prog ops Q (o :: rest) a w := by
  unfold wpList at h ⊢
  rw [if_pos hw]
  rw [if_pos (by rfl)] at h
  exact h
end Go.Proofs.Ytjfiljklohpnoaa

/- Walks of laws whose results are lists. -/
set_option linter.unusedVariables false
set_option linter.unusedSimpArgs false
namespace Go.Proofs.Ytjfiljklohpnoaa
open Fl Go.RowKit
end Go.Proofs.Ytjfiljklohpnoaa

/- Lists of structs, whatever their cells: read, in a block of a law's own, written row by row. -/
set_option linter.unusedVariables false
set_option linter.unusedSimpArgs false
namespace Go.Proofs.Ytjfiljklohpnoaa
namespace Fl
section
variable {α : Type} {cells : α → List Value} {s : Nat}
/-- cell j of a list whose elements are e 0, e 1 .., of s cells each -/
def ceL (cells : α → List Value) (s : Nat) (e : Nat → α) (j : Nat) : Value := (cells (e (j / s))).getD (j % s) undef
theorem ceL_at (e : Nat → α) {k f : Nat} (hf : f < s) : ceL cells s e (k * s + f) = (cells (e k)).getD f undef := by
  unfold ceL
  have h1 : (k * s + f) / s = k := by rw [Nat.mul_comm, Nat.mul_add_div (by omega), Nat.div_eq_of_lt hf, Nat.add_zero]
  have h2 : (k * s + f) % s = f := by rw [Nat.mul_comm, Nat.mul_add_mod, Nat.mod_eq_of_lt hf]
  rw [h1, h2]
def upd (e : Nat → α) (k : Nat) (y : α) (i : Nat) : α := if i = k then y else e i
theorem ceL_upd (e : Nat → α) (k : Nat) (y : α) (hs : 0 < s) (j : Nat) : ceL cells s (upd e k y) j = if k * s ≤ j ∧ j < k * s + s then (cells y).getD (j - k * s) undef else ceL cells s e j := by
  unfold ceL upd
  have hd := Nat.div_add_mod j s
  have hm := Nat.mod_lt j hs
  by_cases h : j / s = k
  · rw [if_pos h]
    rw [h, Nat.mul_comm] at hd
    rw [if_pos ⟨by omega, by omega⟩]
    congr 1
    omega
  · rw [if_neg h, if_neg ?_]
    rintro ⟨h1, h2⟩
    exact h ((Nat.div_eq_iff hs).2 ⟨by omega, by omega⟩)
/-- a list of structs that can be read -/
def Rs (cells : α → List Value) (s : Nat) (w : World) (B : Nat) (A : Option Addr) (n : Nat) (e : Nat → α) : Prop :=
  0 < n → ∃ g off, A = some ⟨g, off, none⟩ ∧ g < B ∧ ∀ k, k < n * s → w.cell? ⟨g, off + k, none⟩ = some (ceL cells s e k)
theorem Rs.keep {w w' : World} {B n : Nat} {A : Option Addr} {e : Nat → α} (h : Rs cells s w B A n e) (hk : ∀ g o, g < B → w'.cell? ⟨g, o, none⟩ = w.cell? ⟨g, o, none⟩) : Rs cells s w' B A n e := fun hn => by
  obtain ⟨g, off, ea, hg, hc⟩ := h hn
  exact ⟨g, off, ea, hg, fun k hk' => (hk g _ hg).trans (hc k hk')⟩
theorem Rs.more {w : World} {B B' n : Nat} {A : Option Addr} {e : Nat → α} (h : Rs cells s w B A n e) (hB : B ≤ B') : Rs cells s w B' A n e := fun hn => by
  obtain ⟨g, off, ea, hg, hc⟩ := h hn
  exact ⟨g, off, ea, by omega, hc⟩
theorem Rs.since {w w' : World} {B n : Nat} {A : Option Addr} {e : Nat → α} (h : Rs cells s w B A n e) (hs : w.Since B w') : Rs cells s w' B A n e :=
  h.keep fun g o hg => hs.cell (a := ⟨g, o, none⟩) hg
theorem Rs.now {w w1 : World} {A : Option Addr} {n : Nat} {e : Nat → α} (h : Rs cells s w w.heap.size A n e) (k : w.Since w.heap.size w1) : Rs cells s w1 w1.heap.size A n e := (h.since k).more k.size
theorem row_lt {n k f : Nat} (hk : k < n) (hf : f < s) : k * s + f < n * s := by
  have := Nat.mul_le_mul_right s (show k + 1 ≤ n from hk)
  rw [Nat.succ_mul] at this
  omega
/-- field f of element k -/
theorem Rs.at_ {w : World} {B n : Nat} {A : Option Addr} {e : Nat → α} (h : Rs cells s w B A n e) {k : Nat} (hk : k < n) : ∃ g off, A = some ⟨g, off, none⟩ ∧ g < B ∧ ∀ f, f < s → w.cell? ⟨g, off + k * s + f, none⟩ = some ((cells (e k)).getD f undef) := by
  obtain ⟨g, off, ea, hg, hc⟩ := h (by omega)
  exact ⟨g, off, ea, hg, fun f hf => by rw [Nat.add_assoc, hc _ (row_lt hk hf), ceL_at e hf]⟩
theorem Rs.range {w : World} {B n : Nat} {A : Option Addr} {e : Nat → α} (h : Rs cells s w B A n e) {k : Nat} (hk : k < n) (hl : (cells (e k)).length = s) : ∃ g off, A = some ⟨g, off, none⟩ ∧ g < B ∧ w.rangeAt g (off + k * s) (cells (e k)) := by
  obtain ⟨g, off, ea, hg, hc⟩ := h.at_ hk
  refine ⟨g, off, ea, hg, fun j v hj => ?_⟩
  have hjl := (List.getElem?_eq_some_iff.1 hj).1
  rw [hc j (by omega)]
  simp [List.getD_eq_getElem?_getD, hj]
/-- such a list as an entry -/
def se (cells : α → List Value) (s : Nat) (T : TypeId) (A : Option Addr) (n : Nat) (e : Nat → α) : En := ce T A (n * s) (ceL cells s e) True
theorem Ge.readS {w : World} {lo n : Nat} {T : TypeId} {A : Option Addr} {e : Nat → α} (hs : 0 < s) (h : Ge lo w (se cells s T A n e)) : Rs cells s w w.heap.size A n e := fun hn => by
  obtain ⟨g, off, cs, ea, hg, hl, hb, hc⟩ := h.ce (Nat.mul_pos hn hs)
  refine ⟨g, off, ea, hl, fun k hk => ?_⟩
  simp only [World.cell?, hb]
  simpa using hc k hk
/-- cells of a block of one's own -/
def GF (w : World) (g : Nat) (T : TypeId) (m : Nat) (f : Nat → Value) : Prop := ∃ cs, w.heap[g]? = some (.cells cs T (0, 0)) ∧ ∀ j, j < m → cs[j]? = some (f j)
theorem GF.cell {w : World} {g m : Nat} {T : TypeId} {f : Nat → Value} (h : GF w g T m f) {j : Nat} (hj : j < m) : w.cell? ⟨g, j, none⟩ = some (f j) := by
  obtain ⟨cs, hb, hc⟩ := h
  simp only [World.cell?, hb]
  simpa using hc j hj
theorem GF.free {w : World} {g m : Nat} {T : TypeId} {f : Nat → Value} (h : GF w g T m f) (j : Nat) : w.frozen? ⟨g, j, none⟩ = false := by
  obtain ⟨cs, hb, hc⟩ := h
  simp [World.frozen?, hb]
theorem GF.set {w : World} {g m : Nat} {T : TypeId} {f : Nat → Value} (h : GF w g T m f) (k : Nat) (v : Value) : GF (w.setCell ⟨g, k, none⟩ v) g T m (fun j => if j = k then v else f j) := by
  obtain ⟨cs, hb, hc⟩ := h
  refine ⟨cs.setIfInBounds k v, by simp [World.setCell, Array.getElem?_modify, hb], fun j hj => ?_⟩
  have hsz : j < cs.size := (Array.getElem?_eq_some_iff.1 (hc j hj)).1
  rw [Array.getElem?_setIfInBounds]
  show _ = some (if j = k then v else f j)
  by_cases e : k = j
  · subst e; rw [if_pos rfl, if_pos rfl, if_pos hsz]
  · rw [if_neg e, if_neg (fun h => e h.symm)]; exact hc j hj
theorem GF.congr {w : World} {g m : Nat} {T : TypeId} {f f' : Nat → Value} (h : GF w g T m f) (e : ∀ j, j < m → f j = f' j) : GF w g T m f' := by
  obtain ⟨cs, hb, hc⟩ := h
  exact ⟨cs, hb, fun j hj => (hc j hj).trans (congrArg some (e j hj))⟩
theorem GF.of {w w' : World} {g m : Nat} {T : TypeId} {f : Nat → Value} (h : GF w g T m f) (e : w'.heap[g]? = w.heap[g]?) : GF w' g T m f := by
  obtain ⟨cs, hb, hc⟩ := h
  exact ⟨cs, e.trans hb, hc⟩
theorem GF.lt {w : World} {g m : Nat} {T : TypeId} {f : Nat → Value} (h : GF w g T m f) : g < w.heap.size := by
  obtain ⟨cs, hb, hc⟩ := h
  exact (Array.getElem?_eq_some_iff.1 hb).1
theorem GF.entry {w : World} {g n lo : Nat} {T : TypeId} {e : Nat → α} (h : GF w g T (n * s) (ceL cells s e)) (hl : lo ≤ g) : Ge lo w (se cells s T (some ⟨g, 0, none⟩) n e) := by
  obtain ⟨cs, hb, hc⟩ := h
  exact ce_ge trivial fun hn => ⟨g, 0, cs, rfl, hl, hb, fun k hk => by rw [Nat.zero_add]; exact hc k hk⟩
theorem GF.made (w : World) (T : TypeId) (zs : Array Value) (z : α) (n : Nat) (hz : (cells z).toArray = zs) (hs : zs.size = s) (hp : 0 < s) : GF (w.alloc (.cells (madeCells zs (n * s)) T)) w.heap.size T (n * s) (ceL cells s fun _ => z) := by
  refine ⟨_, Go.Deep.blk_alloc_new _ _, fun j hj => ?_⟩
  unfold madeCells ceL
  subst hz
  have hm : j % s < (cells z).length := by rw [← List.size_toArray, hs]; exact Nat.mod_lt _ hp
  simp [hj]
  simp only [List.size_toArray] at hs
  rw [hs]
  simp [List.getD_eq_getElem?_getD, List.getElem?_eq_getElem hm]
end
end Fl
end Go.Proofs.Ytjfiljklohpnoaa

/- Arrays of eight floats, of the program. -/
set_option linter.unusedVariables false
set_option linter.unusedSimpArgs false
namespace Go.Proofs.Ytjfiljklohpnoaa
open Fl Go.RowKit
/-- an array of eight words -/
def ag8 (f : Nat → Nat) : Array Value := #[.float .f32 (f 0), .float .f32 (f 1), .float .f32 (f 2), .float .f32 (f 3), .float .f32 (f 4), .float .f32 (f 5), .float .f32 (f 6), .float .f32 (f 7)]
def wv (f : Nat → Nat) (j : Nat) : Value := .float .f32 (f j)
theorem ag8_at (f : Nat → Nat) (j : Nat) (h : j < 8) : (ag8 f)[j]? = some (wv f j) := by
  obtain rfl | rfl | rfl | rfl | rfl | rfl | rfl | rfl : j = 0 ∨ j = 1 ∨ j = 2 ∨ j = 3 ∨ j = 4 ∨ j = 5 ∨ j = 6 ∨ j = 7 := by omega
  all_goals rfl
theorem ag8_gf (w : World) (f : Nat → Nat) : GF (w.alloc (.cells (ag8 f) 53)) w.heap.size 53 8 (wv f) := ⟨_, Go.Deep.blk_alloc_new _ _, fun j hj => ag8_at f j hj⟩
theorem Fl.GF.since {w w' : World} {g m : Nat} {T : TypeId} {f : Nat → Value} (h : GF w g T m f) (s : w.Since w.heap.size w') : GF w' g T m f := h.of (s.block _ h.lt)
def step8 (k : Nat) (r a : Nat → Nat) (j : Nat) : Value := .float .f32 (if j < k then r j else a j)
set_option maxHeartbeats 4000000 in
set_option maxRecDepth 100000 in
theorem mixEights_any (a b : Nat → Nat) (F G : Nat → O) (w : World) (ha : ∀ j, j < 8 → Hid (Fv .f32 (a j) (F j))) (hb : ∀ j, j < 8 → Hid (Fv .f32 (b j) (G j))) :
    Calls Try.prog 29 #[.agg (ag8 a), .agg (ag8 b)] w fun e w' => ∃ r, e = .returned (.agg (ag8 r)) ∧ (∀ j, j < 8 → Hid (Fv .f32 (r j) (ad (F j) (G j)))) ∧ w.Since w.heap.size w' := by
  have HA := Lib.hid ha; have HB := Lib.hid hb
  clear ha hb
  have G0 : Hid (GF (((w.alloc (.cells (ag8 a) 53)).alloc (.cells (ag8 b) 53)).alloc (.cells (ag8 fun _ => 0) 53)) w.heap.size 53 8 (step8 0 (fun _ => 0) a)) := Lib.hid (((ag8_gf w a).since (((World.Since.refl _ _).alloc (Nat.le_refl _) _).alloc (by simp) _)).congr fun j hj => by simp [step8, wv])
  have G1 : Hid (GF (((w.alloc (.cells (ag8 a) 53)).alloc (.cells (ag8 b) 53)).alloc (.cells (ag8 fun _ => 0) 53)) (w.heap.size + 1) 53 8 (wv b)) := Lib.hid (by have := (ag8_gf (w.alloc (.cells (ag8 a) 53)) b).since ((World.Since.refl _ _).alloc (Nat.le_refl _) (.cells (ag8 fun _ => 0) 53)); simpa using this)
  have G2 : Hid (GF (((w.alloc (.cells (ag8 a) 53)).alloc (.cells (ag8 b) 53)).alloc (.cells (ag8 fun _ => 0) 53)) (w.heap.size + 1 + 1) 53 8 (wv fun _ => 0)) := Lib.hid (by have := (ag8_gf ((w.alloc (.cells (ag8 a) 53)).alloc (.cells (ag8 b) 53)) (fun _ => 0)); simpa using this)
  unfold ag8 at *
  go_enter Try.func29, Try.ntmps29
  go_wp2
  go_loopw [6] (fun iv wr => ∃ (k : Nat) (r : Nat → Nat), k ≤ 8 ∧ iv = .int .i64 (k : Nat) ∧ GF wr w.heap.size 53 8 (step8 k r a) ∧ GF wr (w.heap.size + 1) 53 8 (wv b) ∧ GF wr (w.heap.size + 1 + 1) 53 8 (wv fun _ => 0) ∧ (∀ j, j < k → Hid (Fv .f32 (r j) (ad (F j) (G j)))) ∧ w.Since w.heap.size wr) (fun iv _ => 8 - (intOf iv).toNat)
  case atStart => exact ⟨0, fun _ => 0, by omega, rfl, G0.out, G1.out, G2.out, fun j hj => by omega, by (repeat (first | (with_reducible refine Fl.sinDrew ?_) | (with_reducible refine World.Since.drew ?_) | (with_reducible refine Fl.sinSet ?_ ?_; rotate_left) | (with_reducible refine Fl.sinAlloc ?_ ?_; rotate_left) | with_reducible exact World.Since.refl _ _ | with_reducible assumption | (with_reducible refine Fl.sinStep (by with_reducible assumption) ?_))); all_goals (first | omega | (simp; done) | (simp; omega) | (simp [go_sem]; done) | (simp [go_sem]; omega))⟩
  case round =>
    obtain ⟨k, r, hk, rfl, h0, h1, h2, hr, hs⟩ := hrel
    have K0 := Lib.hid h0; have K1 := Lib.hid h1; have K2 := Lib.hid h2; have HR := Lib.hid hr; have HS := Lib.hid hs
    clear h0 h1 h2 hr hs G0 G1 G2
    by_cases hlt : k < 8
    · have hc0 : wr.cell? ⟨w.heap.size, k, none⟩ = some (.float .f32 (a k)) := by
        have := K0.out.cell hlt
        simpa [step8] using this
      have hc1 : wr.cell? ⟨w.heap.size + 1, k, none⟩ = some (.float .f32 (b k)) := K1.out.cell hlt
      have hf0 := K0.out.free k
      have x1 := HA.out k hlt
      have x2 := HB.out k hlt
      go_wp2_with fail
      refine Lo.wp_loose_tail [15] 8 (by kernel_rfl) (by kernel_rfl) ?_
      simp only [List.take_succ_cons, List.take_zero, List.drop_succ_cons, List.drop_zero]
      repeat (first
        | (refine Lo.wpL_move rfl _ (.inl rfl) (by decide) ?_; simp only [Act.put, List.setIfInBounds_toArray, List.set_cons_succ, List.set_cons_zero])
        | (refine Lo.wpL_move rfl _ (.inr rfl) (by decide) ?_; simp only [Act.put, List.setIfInBounds_toArray, List.set_cons_succ, List.set_cons_zero])
        | (refine Lo.wpL_fop rfl _ _ _ _ rfl rfl (by decide) _ _ _ _ _ rfl rfl (by assumption) (by assumption) ?_; intro rr hrr; simp only [Act.put, List.setIfInBounds_toArray, List.set_cons_succ, List.set_cons_zero])
        | (refine Lo.wpL_wide rfl _ _ _ rfl (by decide) _ _ rfl (by kernel_rfl) (by kernel_rfl) (by assumption) ?_; intro rr hrr; simp only [Act.put, List.setIfInBounds_toArray, List.set_cons_succ, List.set_cons_zero])
        | (refine Lo.wpL_quiet rfl (by decide) (fun K hK => ?_); go_big_quiet_op; (refine hK _ ?_; clear hK K)))
      refine Lo.wpL_nil ?_
      refine Lo.after_fl rfl (by assumption) ?_; intro q15 h15; simp only [Act.put, List.setIfInBounds_toArray, List.set_cons_succ, List.set_cons_zero]
      refine Lo.after_nil ?_; intro nq
      go_wp2
      go_roundw
      case rel =>
        refine ⟨k + 1, fun j => if j = k then q15 else r j, by omega, by go_num, ?_, ?_, ?_, fun j hj => ?_, ?_⟩
        · refine (GF.set (w := wr.drewN nq) K0.out k _).congr fun j hj => ?_
          unfold step8
          by_cases e : j = k
          · rw [if_pos e]; simp [e]
          · rw [if_neg e]
            by_cases e2 : j < k
            · simp [e, e2, show j < k + 1 by omega]
            · simp [e, e2, show ¬ j < k + 1 by omega]
        · exact (GF.of (w := wr) K1.out (Go.Deep.blk_setCell_other _ _ _ _ (by show w.heap.size + 1 ≠ w.heap.size; omega)))
        · exact (GF.of (w := wr) K2.out (Go.Deep.blk_setCell_other _ _ _ _ (by show w.heap.size + 1 + 1 ≠ w.heap.size; omega)))
        · show Hid (Fv .f32 (if j = k then q15 else r j) _)
          by_cases e : j = k
          · subst e; rw [if_pos rfl]; exact h15
          · rw [if_neg e]; exact HR.out j (by omega)
        · exact (since_drewN HS.out nq).setCell (Nat.le_refl _) _
      case measure => simp [intOf]; omega
    · obtain rfl : k = 8 := by omega
      have c0 : ∀ j, j < 8 → wr.cell? ⟨w.heap.size, j, none⟩ = some (.float .f32 (r j)) := fun j hj => by
        have := K0.out.cell hj
        simpa [step8, hj] using this
      have d0 : ∀ j, j < 8 → wr.cell? ⟨w.heap.size + 1 + 1, j, none⟩ = some (.float .f32 0) := fun j hj => K2.out.cell hj
      have e0 := c0 0 (by decide); have e1 := c0 1 (by decide); have e2 := c0 2 (by decide); have e3 := c0 3 (by decide); have e4 := c0 4 (by decide); have e5 := c0 5 (by decide); have e6 := c0 6 (by decide); have e7 := c0 7 (by decide)
      have g0 := d0 0 (by decide); have g1 := d0 1 (by decide); have g2 := d0 2 (by decide); have g3 := d0 3 (by decide); have g4 := d0 4 (by decide); have g5 := d0 5 (by decide); have g6 := d0 6 (by decide); have g7 := d0 7 (by decide)
      have z0 := K2.out.free 0; have z1 := K2.out.free 1; have z2 := K2.out.free 2; have z3 := K2.out.free 3; have z4 := K2.out.free 4; have z5 := K2.out.free 5; have z6 := K2.out.free 6; have z7 := K2.out.free 7
      have hlt := K2.out.lt
      clear c0 d0
      rw [show ((8 : Nat) : Int) = 8 from rfl]
      go_wp2
      exact bodyPost_ret (v := .agg (ag8 r)) (by simp [results, Try.results29, go_sem, ag8, g0, g1, g2, g3, g4, g5, g6, g7, z0, z1, z2, z3, z4, z5, z6, z7]) rfl ⟨r, rfl, HR.out, by have hs0 := HS.out; have hz0 := hs0.size; (repeat (first | (with_reducible refine Fl.sinDrew ?_) | (with_reducible refine World.Since.drew ?_) | (with_reducible refine Fl.sinSet ?_ ?_; rotate_left) | (with_reducible refine Fl.sinAlloc ?_ ?_; rotate_left) | with_reducible exact World.Since.refl _ _ | with_reducible assumption | (with_reducible refine Fl.sinStep (by with_reducible assumption) ?_))); all_goals (first | omega | (simp; done) | (simp; omega) | (simp [go_sem]; done) | (simp [go_sem]; omega))⟩
set_option maxHeartbeats 4000000 in
set_option maxRecDepth 100000 in
theorem scaleEight_any (a : Nat → Nat) (b : Nat) (F : Nat → O) (G : O) (w : World) (ha : ∀ j, j < 8 → Hid (Fv .f32 (a j) (F j))) (hb : Hid (Fv .f32 b G)) :
    Calls Try.prog 32 #[.agg (ag8 a), .float .f32 b] w fun e w' => ∃ r, e = .returned (.agg (ag8 r)) ∧ (∀ j, j < 8 → Hid (Fv .f32 (r j) (mu (F j) G))) ∧ w.Since w.heap.size w' := by
  have HA := Lib.hid ha
  clear ha
  have G0 : Hid (GF ((w.alloc (.cells (ag8 a) 53)).alloc (.cells (ag8 fun _ => 0) 53)) w.heap.size 53 8 (step8 0 (fun _ => 0) a)) := Lib.hid (((ag8_gf w a).since ((World.Since.refl _ _).alloc (Nat.le_refl _) _)).congr fun j hj => by simp [step8, wv])
  have G2 : Hid (GF ((w.alloc (.cells (ag8 a) 53)).alloc (.cells (ag8 fun _ => 0) 53)) (w.heap.size + 1) 53 8 (wv fun _ => 0)) := Lib.hid (by have := (ag8_gf (w.alloc (.cells (ag8 a) 53)) (fun _ => 0)); simpa using this)
  unfold ag8 at *
  go_enter Try.func32, Try.ntmps32
  go_wp2
  go_loopw [6] (fun iv wr => ∃ (k : Nat) (r : Nat → Nat), k ≤ 8 ∧ iv = .int .i64 (k : Nat) ∧ GF wr w.heap.size 53 8 (step8 k r a) ∧ GF wr (w.heap.size + 1) 53 8 (wv fun _ => 0) ∧ (∀ j, j < k → Hid (Fv .f32 (r j) (mu (F j) G))) ∧ w.Since w.heap.size wr) (fun iv _ => 8 - (intOf iv).toNat)
  case atStart => exact ⟨0, fun _ => 0, by omega, rfl, G0.out, G2.out, fun j hj => by omega, by (repeat (first | (with_reducible refine Fl.sinDrew ?_) | (with_reducible refine World.Since.drew ?_) | (with_reducible refine Fl.sinSet ?_ ?_; rotate_left) | (with_reducible refine Fl.sinAlloc ?_ ?_; rotate_left) | with_reducible exact World.Since.refl _ _ | with_reducible assumption | (with_reducible refine Fl.sinStep (by with_reducible assumption) ?_))); all_goals (first | omega | (simp; done) | (simp; omega) | (simp [go_sem]; done) | (simp [go_sem]; omega))⟩
  case round =>
    obtain ⟨k, r, hk, rfl, h0, h2, hr, hs⟩ := hrel
    have K0 := Lib.hid h0; have K2 := Lib.hid h2; have HR := Lib.hid hr; have HS := Lib.hid hs
    clear h0 h2 hr hs G0 G2
    by_cases hlt : k < 8
    · have hc0 : wr.cell? ⟨w.heap.size, k, none⟩ = some (.float .f32 (a k)) := by
        have := K0.out.cell hlt
        simpa [step8] using this
      have hf0 := K0.out.free k
      have x1 := HA.out k hlt
      go_wp2_with (with_reducible_and_instances refine Lo.wpList_fo _ rfl _ _ _ _ _ rfl _ _ _ _ _ rfl rfl rfl (by assumption) (by assumption) ?_; intro rr nn hrr)
      have HRR := Lib.hid hrr
      go_roundw
      case rel =>
        refine ⟨k + 1, fun j => if j = k then rr else r j, by omega, by go_num, ?_, ?_, fun j hj => ?_, ?_⟩
        · refine (GF.set (w := wr.drewN nn) K0.out k _).congr fun j hj => ?_
          unfold step8
          by_cases e : j = k
          · rw [if_pos e]; simp [e]
          · rw [if_neg e]
            by_cases e2 : j < k
            · simp [e, e2, show j < k + 1 by omega]
            · simp [e, e2, show ¬ j < k + 1 by omega]
        · exact (GF.of (w := wr) K2.out (Go.Deep.blk_setCell_other _ _ _ _ (by show w.heap.size + 1 ≠ w.heap.size; omega)))
        · show Hid (Fv .f32 (if j = k then rr else r j) _)
          by_cases e : j = k
          · subst e; rw [if_pos rfl]; exact HRR.out
          · rw [if_neg e]; exact HR.out j (by omega)
        · exact (since_drewN HS.out nn).setCell (Nat.le_refl _) _
      case measure => simp [intOf]; omega
    · obtain rfl : k = 8 := by omega
      have c0 : ∀ j, j < 8 → wr.cell? ⟨w.heap.size, j, none⟩ = some (.float .f32 (r j)) := fun j hj => by
        have := K0.out.cell hj
        simpa [step8, hj] using this
      have d0 : ∀ j, j < 8 → wr.cell? ⟨w.heap.size + 1, j, none⟩ = some (.float .f32 0) := fun j hj => K2.out.cell hj
      have e0 := c0 0 (by decide); have e1 := c0 1 (by decide); have e2 := c0 2 (by decide); have e3 := c0 3 (by decide); have e4 := c0 4 (by decide); have e5 := c0 5 (by decide); have e6 := c0 6 (by decide); have e7 := c0 7 (by decide)
      have g0 := d0 0 (by decide); have g1 := d0 1 (by decide); have g2 := d0 2 (by decide); have g3 := d0 3 (by decide); have g4 := d0 4 (by decide); have g5 := d0 5 (by decide); have g6 := d0 6 (by decide); have g7 := d0 7 (by decide)
      have z0 := K2.out.free 0; have z1 := K2.out.free 1; have z2 := K2.out.free 2; have z3 := K2.out.free 3; have z4 := K2.out.free 4; have z5 := K2.out.free 5; have z6 := K2.out.free 6; have z7 := K2.out.free 7
      have hlt := K2.out.lt
      clear c0 d0
      rw [show ((8 : Nat) : Int) = 8 from rfl]
      go_wp2
      exact bodyPost_ret (v := .agg (ag8 r)) (by simp [results, Try.results32, go_sem, ag8, g0, g1, g2, g3, g4, g5, g6, g7, z0, z1, z2, z3, z4, z5, z6, z7]) rfl ⟨r, rfl, HR.out, by have hs0 := HS.out; have hz0 := hs0.size; (repeat (first | (with_reducible refine Fl.sinDrew ?_) | (with_reducible refine World.Since.drew ?_) | (with_reducible refine Fl.sinSet ?_ ?_; rotate_left) | (with_reducible refine Fl.sinAlloc ?_ ?_; rotate_left) | with_reducible exact World.Since.refl _ _ | with_reducible assumption | (with_reducible refine Fl.sinStep (by with_reducible assumption) ?_))); all_goals (first | omega | (simp; done) | (simp; omega) | (simp [go_sem]; done) | (simp [go_sem]; omega))⟩
theorem arrayAt8 (g o c : Nat) (W : World) : (Instr.arrayAt 53 (.slice (some ⟨g, o, none⟩) 8 c)).run Try.prog W = .ok (.pointer (some ⟨g, o, none⟩)) W := by
  have h : Try.prog.arrayLen 53 = 8 := by kernel_rfl
  simp [Instr.arrayAt, go_sem, h]
theorem ag8_len (f : Nat → Nat) : (ag8 f).toList.length = 8 := rfl
theorem ag8_eq (f g : Nat → Nat) (h : ∀ j, j < 8 → f j = g j) : ag8 f = ag8 g := by
  unfold ag8
  rw [h 0 (by decide), h 1 (by decide), h 2 (by decide), h 3 (by decide), h 4 (by decide), h 5 (by decide), h 6 (by decide), h 7 (by decide)]
set_option maxHeartbeats 4000000 in
set_option maxRecDepth 100000 in
theorem eightFrom_any (A : Option Addr) (n c i : Nat) (xs : List Nat) (w : World) (h : Fs w w.heap.size A n xs) (hnc : n ≤ c) (hin : i < n) (hn : n ≤ 256) :
    Calls Try.prog 30 #[.slice A n c, .int .i64 (i : Int)] w fun e w' => e = .returned (.agg (ag8 fun j => wd xs (i + j))) ∧ w.Since w.heap.size w' := by
  have H := Lib.hid h
  obtain ⟨g, off, rfl, hg, hc⟩ := h.2.2 (by omega)
  clear h
  have hic : ¬ c = i := by omega
  have hI : ((n : Int) - (i : Int)) = ((n - i : Nat) : Int) := by omega
  by_cases h8 : 8 ≤ n - i
  · have cs : ∀ j, j < 8 → w.cell? ⟨g, off + i + j, none⟩ = some (.float .f32 (wd xs (i + j))) := fun j hj => by
      have := hc (i + j) (by omega)
      rwa [← Nat.add_assoc] at this
    have e0 := cs 0 (by decide); have e1 := cs 1 (by decide); have e2 := cs 2 (by decide); have e3 := cs 3 (by decide); have e4 := cs 4 (by decide); have e5 := cs 5 (by decide); have e6 := cs 6 (by decide); have e7 := cs 7 (by decide)
    simp only [Nat.add_zero] at e0
    have hsa := arrayAt8 g (off + i) (c - i)
    have hg2 : g < w.heap.size := hg
    have G2 : Hid (GF (w.alloc (.cells (ag8 fun _ => 0) 53)) w.heap.size 53 8 (wv fun _ => 0)) := Lib.hid (ag8_gf w fun _ => 0)
    clear cs hc
    go_enter Try.func30, Try.ntmps30
    go_wp2
    exact bodyPost_ret (v := .agg (ag8 fun j => wd xs (i + j))) (by simp [results, Try.results30, go_sem, ag8]) rfl ⟨rfl, by (repeat (first | (with_reducible refine Fl.sinDrew ?_) | (with_reducible refine World.Since.drew ?_) | (with_reducible refine Fl.sinSet ?_ ?_; rotate_left) | (with_reducible refine Fl.sinAlloc ?_ ?_; rotate_left) | with_reducible exact World.Since.refl _ _ | with_reducible assumption | (with_reducible refine Fl.sinStep (by with_reducible assumption) ?_))); all_goals (first | omega | (simp; done) | (simp; omega) | (simp [go_sem]; done) | (simp [go_sem]; omega))⟩
  · obtain ⟨m, hm⟩ : ∃ m, m = n - i := ⟨_, rfl⟩
    have hm8 : m < 8 := by omega
    have hm0 : 0 < m := by omega
    rw [← hm] at hI
    have h8' : decide ((8 : Int) ≤ (m : Int)) = false := decide_eq_false (by omega)
    obtain ⟨cs, hcs⟩ : ∃ cs, cs = (List.range m).map fun j => Value.float .f32 (wd xs (i + j)) := ⟨_, rfl⟩
    have HL : Hid (cs.length = m) := Lib.hid (by rw [hcs]; simp)
    have HE := Lib.hid hcs
    have HC := Lib.hid hc
    have HM := Lib.hid hm
    have HI := Lib.hid hI
    clear hcs hc hm
    go_enter Try.func30, Try.ntmps30
    go_wp2
    generalize hW : World.alloc _ _ = W
    have HS : Hid (w.Since w.heap.size W) := Lib.hid (by rw [← hW]; exact ((World.Since.refl _ _).alloc (Nat.le_refl _) _).alloc (by simp) _)
    have G3 : Hid (GF W w.heap.size 53 8 (wv fun _ => 0)) := Lib.hid (by rw [← hW]; exact (ag8_gf w fun _ => 0).since ((World.Since.refl _ _).alloc (Nat.le_refl _) _))
    have G4 : Hid (W.heap[w.heap.size + 1]? = some (.cells (ag8 fun _ => 0).toList.toArray 53 (0, 0))) := Lib.hid (by rw [← hW]; have := Go.Deep.blk_alloc_new (w.alloc (.cells (ag8 fun _ => 0) 53)) (.cells (ag8 fun _ => 0) 53); simpa [ag8] using this)
    have hzW : w.heap.size + 1 < W.heap.size := by rw [← hW]; simp
    clear hW
    have hin2 : (i : Int) ≤ (n : Int) := by omega
    refine Lo.wp_loose_tail [] 4 (by kernel_rfl) (by kernel_rfl) ?_
    simp only [List.take_succ_cons, List.take_zero, List.drop_succ_cons, List.drop_zero]
    repeat (first
      | (refine Lo.wpL_move rfl _ (.inl rfl) (by decide) ?_; simp only [Act.put, List.setIfInBounds_toArray, List.set_cons_succ, List.set_cons_zero])
      | (refine Lo.wpL_move rfl _ (.inr rfl) (by decide) ?_; simp only [Act.put, List.setIfInBounds_toArray, List.set_cons_succ, List.set_cons_zero])
      | (refine Lo.wpL_fop rfl _ _ _ _ rfl rfl (by decide) _ _ _ _ _ rfl rfl (by assumption) (by assumption) ?_; intro rr hrr; simp only [Act.put, List.setIfInBounds_toArray, List.set_cons_succ, List.set_cons_zero])
      | (refine Lo.wpL_wide rfl _ _ _ rfl (by decide) _ _ rfl (by kernel_rfl) (by kernel_rfl) (by assumption) ?_; intro rr hrr; simp only [Act.put, List.setIfInBounds_toArray, List.set_cons_succ, List.set_cons_zero])
      | (refine Lo.wpL_quiet rfl (by decide) (fun K hK => ?_); go_big_quiet_op; (refine hK _ ?_; clear hK K)))
    refine Lo.wpL_nil ?_
    refine Lo.after_nil ?_; intro nq
    with_reducible refine wpList_copy_splice (o := ⟨some 22, _, _, _, _, _⟩) rfl (.tmp 18) (.tmp 21) _ _ rfl 24 Try.underlying33 (by kernel_rfl) _ _ _ _ _ _ rfl rfl (w.heap.size + 1) 0 (ag8 fun _ => 0).toList 53 (heap_drewN G4.out _) cs (by rw [HL.out, HM.out]; exact (Nat.min_eq_left (by have := HM.out; omega)).symm) (fun _ => ⟨rfl, _, rfl, ?src⟩) (by rw [HL.out, ag8_len]; omega) (by rw [HE.out]; exact floats_one) (w.heap.size + 1) W (below_drewN (Below.refl _ _) _) (Nat.le_refl _) ?_
    case src =>
      intro j v hj
      have hjm : j < m := by
        have := (List.getElem?_eq_some_iff.1 hj).1
        rwa [HL.out] at this
      rw [HE.out] at hj
      simp [hjm] at hj
      subst hj
      have e : (({ block := g, off := off + i } : Addr).add j) = ⟨g, off + (i + j), none⟩ := by simp [Addr.add, Nat.add_assoc]
      rw [e]
      exact (HS.out.cell (a := ⟨g, off + (i + j), none⟩) hg).trans (HC.out (i + j) (by have := HM.out; omega))
    intro w2 hb2 hw2
    have HW2 := Lib.hid hw2
    have G5 : Hid (GF w2 (w.heap.size + 1) 53 8 (wv fun j => wd xs (i + j))) := Lib.hid ⟨_, hb2.out, fun j hj => by
      unfold splice
      rw [List.take_zero, List.nil_append, List.getElem?_toArray]
      by_cases hjm : j < m
      · rw [List.getElem?_append_left (by rw [HL.out]; exact hjm), HE.out]
        simp [hjm, wv]
      · rw [List.getElem?_append_right (by rw [HL.out]; omega), HL.out, List.getElem?_drop]
        have e : m + (j - m) = j := by omega
        rw [Nat.zero_add, e]
        have h9 := ag8_at (fun _ => 0) j hj
        rw [Array.getElem?_toList, h9]
        unfold wv wd
        have : (xs.getD (i + j) 0) = 0 := by
          rw [List.getD_eq_getElem?_getD, List.getElem?_eq_none (by rw [H.out.1]; have := HM.out; omega)]; rfl
        exact congrArg (fun z => some (Value.float .f32 z)) this.symm⟩
    have G6 : Hid (GF w2 w.heap.size 53 8 (wv fun _ => 0)) := Lib.hid (G3.out.of (HW2.out.block _ (by omega)))
    have c0 : ∀ j, j < 8 → w2.cell? ⟨w.heap.size + 1, j, none⟩ = some (.float .f32 (wd xs (i + j))) := fun j hj => G5.out.cell hj
    have d0 : ∀ j, j < 8 → w2.cell? ⟨w.heap.size, j, none⟩ = some (.float .f32 0) := fun j hj => G6.out.cell hj
    have e0 := c0 0 (by decide); have e1 := c0 1 (by decide); have e2 := c0 2 (by decide); have e3 := c0 3 (by decide); have e4 := c0 4 (by decide); have e5 := c0 5 (by decide); have e6 := c0 6 (by decide); have e7 := c0 7 (by decide)
    have g0 := d0 0 (by decide); have g1 := d0 1 (by decide); have g2 := d0 2 (by decide); have g3 := d0 3 (by decide); have g4 := d0 4 (by decide); have g5 := d0 5 (by decide); have g6 := d0 6 (by decide); have g7 := d0 7 (by decide)
    have z0 := G6.out.free 0; have z1 := G6.out.free 1; have z2 := G6.out.free 2; have z3 := G6.out.free 3; have z4 := G6.out.free 4; have z5 := G6.out.free 5; have z6 := G6.out.free 6; have z7 := G6.out.free 7
    have HS2 : Hid (w.Since w.heap.size w2) := Lib.hid (HS.out.trans (since_mono (since_below HW2.out) (by omega)))
    have hz2 := HS2.out.size
    clear c0 d0 hb2 hw2
    go_wp2
    exact bodyPost_ret (v := .agg (ag8 fun j => wd xs (i + j))) (by simp [results, Try.results30, go_sem, ag8, g0, g1, g2, g3, g4, g5, g6, g7, z0, z1, z2, z3, z4, z5, z6, z7]) rfl ⟨rfl, by have hs0 := HS2.out; (repeat (first | (with_reducible refine Fl.sinDrew ?_) | (with_reducible refine World.Since.drew ?_) | (with_reducible refine Fl.sinSet ?_ ?_; rotate_left) | (with_reducible refine Fl.sinAlloc ?_ ?_; rotate_left) | with_reducible exact World.Since.refl _ _ | with_reducible assumption | (with_reducible refine Fl.sinStep (by with_reducible assumption) ?_))); all_goals (first | omega | (simp; done) | (simp; omega) | (simp [go_sem]; done) | (simp [go_sem]; omega))⟩
end Go.Proofs.Ytjfiljklohpnoaa

/- Mixed and scaled samples: of the program. -/
set_option linter.unusedVariables false
set_option linter.unusedSimpArgs false
namespace Go.Proofs.Ytjfiljklohpnoaa
open Fl Go.RowKit
theorem eights_src {W : World} {g : Nat} {s : Nat → Nat} (h : GF W g 53 8 (wv s)) (m : Nat) (hm : m ≤ 8) (nq : Nat) : ∀ j v, ((List.range m).map fun j => Value.float .f32 (s j))[j]? = some v → (W.drewN nq).cell? (({ block := g, off := 0 } : Addr).add j) = some v := fun j v hj => by
  have hjm : j < m := by
    have := (List.getElem?_eq_some_iff.1 hj).1
    simpa using this
  simp [hjm] at hj
  subst hj
  have e : (({ block := g, off := 0 } : Addr).add j) = ⟨g, j, none⟩ := by rw [Go.WideShapes.add_plain, Nat.zero_add]
  rw [e]
  exact h.cell (by omega)
theorem eights_put {cs : Array Value} {n p m : Nat} {r s : Nat → Nat} (h : ∀ j, j < n → cs[j]? = some (partial_ p r j)) (hm : p + m ≤ n) (hm2 : m ≤ 8) (hm3 : m = 8 ∨ p + m = n) : ∀ j, j < n → (splice cs.toList p ((List.range m).map fun j => Value.float .f32 (s j))).toArray[j]? = some (partial_ (p + 8) (fun j => if p ≤ j then s (j - p) else r j) j) := by
  intro j hj
  have hsz : n ≤ cs.size := by
    rcases Nat.eq_zero_or_pos n with h0 | h0
    · omega
    · have := (Array.getElem?_eq_some_iff.1 (h (n - 1) (by omega))).1; omega
  unfold splice
  rw [List.getElem?_toArray]
  have hl : (cs.toList.take p).length = p := by rw [List.length_take, Array.length_toList]; omega
  by_cases h1 : j < p
  · rw [List.getElem?_append_left (by rw [hl]; exact h1), List.getElem?_take_of_lt h1, Array.getElem?_toList, h j hj]
    unfold partial_
    dsimp only
    rw [if_pos h1, if_pos (by omega), if_neg (by omega)]
  · by_cases h2 : j < p + m
    · rw [List.getElem?_append_right (by rw [hl]; omega), hl, List.getElem?_append_left (by simp; omega)]
      unfold partial_
      dsimp only
      rw [if_pos (by omega), if_pos (by omega)]
      simp [show j - p < m by omega]
    · rw [← List.append_assoc, List.getElem?_append_right (by simp [hl]; omega)]
      have hl2 : (cs.toList.take p ++ (List.range m).map fun j => Value.float .f32 (s j)).length = p + m := by simp [hl]
      rw [hl2]
      rcases hm3 with rfl | h3
      · rw [List.getElem?_drop]
        have e : p + ((List.range 8).map fun j => Value.float .f32 (s j)).length + (j - (p + 8)) = j := by simp; omega
        rw [e, Array.getElem?_toList, h j hj]
        unfold partial_
        rw [if_neg (by omega), if_neg (by omega)]
      · omega
set_option maxHeartbeats 8000000 in
set_option maxRecDepth 100000 in
theorem implMixSamples_ok (A : Option Addr) (n c : Nat) (xs : List Nat) (A2 : Option Addr) (c2 : Nat) (ys : List Nat) (w : World) (hA : Fs w w.heap.size A n xs) (hnc : n ≤ c) (hn : n ≤ 256) (hA2 : Fs w w.heap.size A2 n ys) (hnc2 : n ≤ c2) :
    Calls Try.prog 13 #[.slice A n c, .slice A2 n c2] w (PLB n (fun k => ad (ab .f32 (wd xs k)) (ab .f32 (wd ys k))) true w) := by
  have hfew : decide (n ≤ 256 ∧ n = n) = true := decide_eq_true ⟨hn, rfl⟩
  have HA := Lib.hid hA
  have HA2 := Lib.hid hA2; clear hA2
  have hmk := fun W => run_make_row' (P := Try.prog) 33 24 (.float .f32 0) 4 Try.underlying33 Try.infoF rfl .i64 .i64 n (by omega) (by omega) W
  clear hA
  go_enter Try.func13, Try.ntmps13
  go_wp2_with (first | (go_at_call 28; refine (implPair_any _ _ _ _ _ _ true _ hfew).mono ?_; rintro e w' ⟨rfl, rfl⟩))
  go_loopw [7] (fun iv wr => ∃ (p : Nat) (r : Nat → Nat), p ≤ n + 8 ∧ iv = .int .i64 (p : Nat) ∧ GCells wr w.heap.size n (partial_ p r) ∧ (∀ j, j < p → j < n → Hid (Fv .f32 (r j) ((fun k => ad (ab .f32 (wd xs k)) (ab .f32 (wd ys k))) j))) ∧ w.Since w.heap.size wr) (fun iv _ => n - (intOf iv).toNat)
  case atStart =>
    obtain ⟨cs, hb, _, hc⟩ := World.rowIs_made w (.float .f32 0) n 24
    exact ⟨0, fun _ => 0, by omega, rfl, ⟨cs, hb, fun j hj => hc j hj⟩, fun j hj => by omega, (World.Since.refl _ _).alloc (Nat.le_refl _) _⟩
  case round =>
    obtain ⟨p, r, hp, rfl, hcs, hr, hs⟩ := hrel
    have HC := Lib.hid hcs; have HR := Lib.hid hr; have HS := Lib.hid hs
    have hgw : w.heap.size < wr.heap.size := hcs.lt
    clear hcs hr hs
    by_cases hlt : p < n
    · go_wp2_with fail
      go_at_call 30
      refine (eightFrom_any A n c p xs wr (HA.out.now HS.out) hnc hlt hn).mono ?_
      rintro e w2 ⟨rfl, hs2⟩
      have T2 := Lib.hid hs2; clear hs2
      go_wp2_with fail
      go_at_call 30
      refine (eightFrom_any A2 n c2 p ys w2 (HA2.out.now (since_step HS.out T2.out)) hnc2 hlt hn).mono ?_
      rintro e w3 ⟨rfl, hs3⟩
      have T3 : Hid (wr.Since wr.heap.size w3) := Lib.hid (since_step T2.out hs3); clear hs3
      go_wp2_with fail
      go_at_call 29
      refine (mixEights_any _ _ _ _ w3 (fun j hj => (Lib.hid ⟨HA.out.2.1.at_ (p + j), rfl⟩ : Hid (Fv .f32 (wd xs (p + j)) (ab .f32 (wd xs (p + j)))))) (fun j hj => (Lib.hid ⟨HA2.out.2.1.at_ (p + j), rfl⟩ : Hid (Fv .f32 (wd ys (p + j)) (ab .f32 (wd ys (p + j))))))).mono ?_
      rintro e w4 ⟨s, rfl, hsv, hs4⟩
      have HV := Lib.hid hsv
      have T4 : Hid (wr.Since wr.heap.size w4) := Lib.hid (since_step T3.out hs4)
      clear hsv hs4
      have C4 := Lib.hid (show GCells w4 w.heap.size n (partial_ p r) by
        obtain ⟨cs, hb, hc⟩ := HC.out
        exact ⟨cs, (T4.out.block _ hgw).trans hb, hc⟩)
      have HS4 := Lib.hid (since_step HS.out T4.out)
      have hz4 : w.heap.size < w4.heap.size := Nat.lt_of_lt_of_le hgw T4.out.size
      obtain ⟨m, hm⟩ : ∃ m, m = min 8 (n - p) := ⟨_, rfl⟩
      have hm1 : p + m ≤ n := by omega
      have hm2 : m ≤ 8 := by omega
      have hm3 : m = 8 ∨ p + m = n := by omega
      have hm4 : 0 < m := by omega
      have HM := Lib.hid hm
      clear hm
      simp only [ag8]
      go_wp2_with fail
      generalize hW : World.alloc _ _ = W
      have hW' : W = w4.alloc (.cells (ag8 s) 53) := by rw [← hW]; rfl
      have G8 : Hid (GF W w4.heap.size 53 8 (wv s)) := Lib.hid (by rw [hW']; exact ag8_gf w4 s)
      have TW : Hid (w4.Since w4.heap.size W) := Lib.hid (by rw [hW']; exact (World.Since.refl _ _).alloc (Nat.le_refl _) _)
      clear hW hW'
      obtain ⟨cs, hb, hcc⟩ := C4.out
      have HB : Hid (W.heap[w.heap.size]? = some (.cells cs.toList.toArray 24 (0, 0))) := Lib.hid (by rw [Array.toArray_toList]; exact (TW.out.block _ hz4).trans hb)
      have HCC := Lib.hid hcc
      have HSZ : Hid (n ≤ cs.size) := Lib.hid (by have := (Array.getElem?_eq_some_iff.1 (hcc (n - 1) (by omega))).1; omega)
      have HSW := Lib.hid (since_step HS4.out TW.out)
      clear hb hcc
      have hpn : ¬ n = p := by omega
      have hpI : (p : Int) ≤ (n : Int) := by omega
      have hl8 : ((List.range m).map fun j => Value.float .f32 (s j)).length = m := by simp
      have HL8 := Lib.hid hl8
      clear hl8
      refine Lo.wp_loose_tail [] 4 (by kernel_rfl) (by kernel_rfl) ?_
      simp only [List.take_succ_cons, List.take_zero, List.drop_succ_cons, List.drop_zero]
      repeat (first
        | (refine Lo.wpL_move rfl _ (.inl rfl) (by decide) ?_; simp only [Act.put, List.setIfInBounds_toArray, List.set_cons_succ, List.set_cons_zero])
        | (refine Lo.wpL_move rfl _ (.inr rfl) (by decide) ?_; simp only [Act.put, List.setIfInBounds_toArray, List.set_cons_succ, List.set_cons_zero])
        | (refine Lo.wpL_fop rfl _ _ _ _ rfl rfl (by decide) _ _ _ _ _ rfl rfl (by assumption) (by assumption) ?_; intro rr hrr; simp only [Act.put, List.setIfInBounds_toArray, List.set_cons_succ, List.set_cons_zero])
        | (refine Lo.wpL_wide rfl _ _ _ rfl (by decide) _ _ rfl (by kernel_rfl) (by kernel_rfl) (by assumption) ?_; intro rr hrr; simp only [Act.put, List.setIfInBounds_toArray, List.set_cons_succ, List.set_cons_zero])
        | (refine Lo.wpL_quiet rfl (by decide) (fun K hK => ?_); go_big_quiet_op; (refine hK _ ?_; clear hK K)))
      refine Lo.wpL_nil ?_
      refine Lo.after_nil ?_; intro nq
      with_reducible refine wpList_copy_splice (o := ⟨some 33, _, _, _, _, _⟩) rfl (.tmp 31) (.tmp 32) _ _ rfl 24 Try.underlying33 (by kernel_rfl) _ _ _ _ _ _ rfl rfl w.heap.size p cs.toList 24 (heap_drewN HB.out _) ((List.range m).map fun j => Value.float .f32 (s j)) (by rw [HL8.out]; exact HM.out) (fun _ => ⟨by simp, _, rfl, eights_src G8.out m hm2 _⟩) (by rw [HL8.out, Array.length_toList]; have := HSZ.out; omega) floats_one w.heap.size w (below_drewN ⟨HSW.out.os, HSW.out.tape, HSW.out.output, HSW.out.size, HSW.out.block⟩ _) (Nat.le_refl _) ?_
      intro w5 hb5 hw5
      rw [HL8.out]
      have HB5 := Lib.hid hb5.out; have HW5 := Lib.hid (since_below hw5); clear hb5 hw5
      go_wp2
      go_roundw
      case rel =>
        refine ⟨p + 8, fun j => if p ≤ j then s (j - p) else r j, by omega, by go_num, ⟨_, HB5.out, eights_put HCC.out hm1 hm2 hm3⟩, fun j hj hjn => ?_, HW5.out⟩
        show Hid (Fv .f32 (if p ≤ j then s (j - p) else r j) _)
        by_cases e : p ≤ j
        · rw [if_pos e]
          have h9 := HV.out (j - p) (by omega)
          simp only [show p + (j - p) = j by omega] at h9
          exact h9
        · rw [if_neg e]; exact HR.out j (by omega) hjn
      case measure => simp [intOf]; omega
    · go_wp2
      go_ret2
      refine ⟨⟨some ⟨w.heap.size, 0, none⟩, n, lst n r⟩, n, rfl, rfl, ⟨lst_len _ _, fun y hy => ?_, fun _ => ?_⟩, fun i hi => ?_, HS.out⟩
      · obtain ⟨i, hi, rfl⟩ := List.mem_map.1 hy
        exact (HR.out i (by have := List.mem_range.1 hi; omega) (List.mem_range.1 hi)).out.1
      · obtain ⟨cs, hb, hc⟩ := HC.out
        refine ⟨_, cs, rfl, Nat.le_refl _, hb, fun j hj => ?_⟩
        have hj' : j < n := hj
        rw [hc j hj']; unfold partial_ fv; rw [if_pos (by omega), lst_wd hj']
      · have hi' : i < n := hi
        show ab .f32 (wd (lst n r) i) = _
        rw [lst_wd hi']; exact (HR.out i (by omega) hi').out.2
set_option maxHeartbeats 8000000 in
set_option maxRecDepth 100000 in
theorem implScaleSamples_ok (A : Option Addr) (n c : Nat) (xs : List Nat) (b : Nat) (G : O) (w : World) (hA : Fs w w.heap.size A n xs) (hnc : n ≤ c) (hn : n ≤ 256) (hb : Hid (Fv .f32 b G)) :
    Calls Try.prog 14 #[.slice A n c, .float .f32 b] w (PLB n (fun k => mu (ab .f32 (wd xs k)) G) true w) := by
  have hfew : decide ((n : Int) ≤ 256) = true := decide_eq_true (by omega)
  have HA := Lib.hid hA
  skip
  have hmk := fun W => run_make_row' (P := Try.prog) 33 24 (.float .f32 0) 4 Try.underlying33 Try.infoF rfl .i64 .i64 n (by omega) (by omega) W
  clear hA
  go_enter Try.func14, Try.ntmps14
  go_wp2_with (first | (go_at_call 31; refine (implSamples_b _ _ _ _ _ hfew).mono ?_; rintro e w' ⟨rfl, rfl⟩))
  go_loopw [7] (fun iv wr => ∃ (p : Nat) (r : Nat → Nat), p ≤ n + 8 ∧ iv = .int .i64 (p : Nat) ∧ GCells wr w.heap.size n (partial_ p r) ∧ (∀ j, j < p → j < n → Hid (Fv .f32 (r j) ((fun k => mu (ab .f32 (wd xs k)) G) j))) ∧ w.Since w.heap.size wr) (fun iv _ => n - (intOf iv).toNat)
  case atStart =>
    obtain ⟨cs, hb, _, hc⟩ := World.rowIs_made w (.float .f32 0) n 24
    exact ⟨0, fun _ => 0, by omega, rfl, ⟨cs, hb, fun j hj => hc j hj⟩, fun j hj => by omega, (World.Since.refl _ _).alloc (Nat.le_refl _) _⟩
  case round =>
    obtain ⟨p, r, hp, rfl, hcs, hr, hs⟩ := hrel
    have HC := Lib.hid hcs; have HR := Lib.hid hr; have HS := Lib.hid hs
    have hgw : w.heap.size < wr.heap.size := hcs.lt
    clear hcs hr hs
    by_cases hlt : p < n
    · go_wp2_with fail
      go_at_call 30
      refine (eightFrom_any A n c p xs wr (HA.out.now HS.out) hnc hlt hn).mono ?_
      rintro e w2 ⟨rfl, hs2⟩
      have T2 := Lib.hid hs2; clear hs2
      skip
      go_wp2_with fail
      go_at_call 32
      refine (scaleEight_any _ _ _ _ w2 (fun j hj => (Lib.hid ⟨HA.out.2.1.at_ (p + j), rfl⟩ : Hid (Fv .f32 (wd xs (p + j)) (ab .f32 (wd xs (p + j)))))) hb).mono ?_
      rintro e w4 ⟨s, rfl, hsv, hs4⟩
      have HV := Lib.hid hsv
      have T4 : Hid (wr.Since wr.heap.size w4) := Lib.hid (since_step T2.out hs4)
      clear hsv hs4
      have C4 := Lib.hid (show GCells w4 w.heap.size n (partial_ p r) by
        obtain ⟨cs, hb, hc⟩ := HC.out
        exact ⟨cs, (T4.out.block _ hgw).trans hb, hc⟩)
      have HS4 := Lib.hid (since_step HS.out T4.out)
      have hz4 : w.heap.size < w4.heap.size := Nat.lt_of_lt_of_le hgw T4.out.size
      obtain ⟨m, hm⟩ : ∃ m, m = min 8 (n - p) := ⟨_, rfl⟩
      have hm1 : p + m ≤ n := by omega
      have hm2 : m ≤ 8 := by omega
      have hm3 : m = 8 ∨ p + m = n := by omega
      have hm4 : 0 < m := by omega
      have HM := Lib.hid hm
      clear hm
      simp only [ag8]
      go_wp2_with fail
      generalize hW : World.alloc _ _ = W
      have hW' : W = w4.alloc (.cells (ag8 s) 53) := by rw [← hW]; rfl
      have G8 : Hid (GF W w4.heap.size 53 8 (wv s)) := Lib.hid (by rw [hW']; exact ag8_gf w4 s)
      have TW : Hid (w4.Since w4.heap.size W) := Lib.hid (by rw [hW']; exact (World.Since.refl _ _).alloc (Nat.le_refl _) _)
      clear hW hW'
      obtain ⟨cs, hb, hcc⟩ := C4.out
      have HB : Hid (W.heap[w.heap.size]? = some (.cells cs.toList.toArray 24 (0, 0))) := Lib.hid (by rw [Array.toArray_toList]; exact (TW.out.block _ hz4).trans hb)
      have HCC := Lib.hid hcc
      have HSZ : Hid (n ≤ cs.size) := Lib.hid (by have := (Array.getElem?_eq_some_iff.1 (hcc (n - 1) (by omega))).1; omega)
      have HSW := Lib.hid (since_step HS4.out TW.out)
      clear hb hcc
      have hpn : ¬ n = p := by omega
      have hpI : (p : Int) ≤ (n : Int) := by omega
      have hl8 : ((List.range m).map fun j => Value.float .f32 (s j)).length = m := by simp
      have HL8 := Lib.hid hl8
      clear hl8
      refine Lo.wp_loose_tail [] 4 (by kernel_rfl) (by kernel_rfl) ?_
      simp only [List.take_succ_cons, List.take_zero, List.drop_succ_cons, List.drop_zero]
      repeat (first
        | (refine Lo.wpL_move rfl _ (.inl rfl) (by decide) ?_; simp only [Act.put, List.setIfInBounds_toArray, List.set_cons_succ, List.set_cons_zero])
        | (refine Lo.wpL_move rfl _ (.inr rfl) (by decide) ?_; simp only [Act.put, List.setIfInBounds_toArray, List.set_cons_succ, List.set_cons_zero])
        | (refine Lo.wpL_fop rfl _ _ _ _ rfl rfl (by decide) _ _ _ _ _ rfl rfl (by assumption) (by assumption) ?_; intro rr hrr; simp only [Act.put, List.setIfInBounds_toArray, List.set_cons_succ, List.set_cons_zero])
        | (refine Lo.wpL_wide rfl _ _ _ rfl (by decide) _ _ rfl (by kernel_rfl) (by kernel_rfl) (by assumption) ?_; intro rr hrr; simp only [Act.put, List.setIfInBounds_toArray, List.set_cons_succ, List.set_cons_zero])
        | (refine Lo.wpL_quiet rfl (by decide) (fun K hK => ?_); go_big_quiet_op; (refine hK _ ?_; clear hK K)))
      refine Lo.wpL_nil ?_
      refine Lo.after_nil ?_; intro nq
      with_reducible refine wpList_copy_splice (o := ⟨some 30, _, _, _, _, _⟩) rfl (.tmp 28) (.tmp 29) _ _ rfl 24 Try.underlying33 (by kernel_rfl) _ _ _ _ _ _ rfl rfl w.heap.size p cs.toList 24 (heap_drewN HB.out _) ((List.range m).map fun j => Value.float .f32 (s j)) (by rw [HL8.out]; exact HM.out) (fun _ => ⟨by simp, _, rfl, eights_src G8.out m hm2 _⟩) (by rw [HL8.out, Array.length_toList]; have := HSZ.out; omega) floats_one w.heap.size w (below_drewN ⟨HSW.out.os, HSW.out.tape, HSW.out.output, HSW.out.size, HSW.out.block⟩ _) (Nat.le_refl _) ?_
      intro w5 hb5 hw5
      rw [HL8.out]
      have HB5 := Lib.hid hb5.out; have HW5 := Lib.hid (since_below hw5); clear hb5 hw5
      go_wp2
      go_roundw
      case rel =>
        refine ⟨p + 8, fun j => if p ≤ j then s (j - p) else r j, by omega, by go_num, ⟨_, HB5.out, eights_put HCC.out hm1 hm2 hm3⟩, fun j hj hjn => ?_, HW5.out⟩
        show Hid (Fv .f32 (if p ≤ j then s (j - p) else r j) _)
        by_cases e : p ≤ j
        · rw [if_pos e]
          have h9 := HV.out (j - p) (by omega)
          simp only [show p + (j - p) = j by omega] at h9
          exact h9
        · rw [if_neg e]; exact HR.out j (by omega) hjn
      case measure => simp [intOf]; omega
    · go_wp2
      go_ret2
      refine ⟨⟨some ⟨w.heap.size, 0, none⟩, n, lst n r⟩, n, rfl, rfl, ⟨lst_len _ _, fun y hy => ?_, fun _ => ?_⟩, fun i hi => ?_, HS.out⟩
      · obtain ⟨i, hi, rfl⟩ := List.mem_map.1 hy
        exact (HR.out i (by have := List.mem_range.1 hi; omega) (List.mem_range.1 hi)).out.1
      · obtain ⟨cs, hb, hc⟩ := HC.out
        refine ⟨_, cs, rfl, Nat.le_refl _, hb, fun j hj => ?_⟩
        have hj' : j < n := hj
        rw [hc j hj']; unfold partial_ fv; rw [if_pos (by omega), lst_wd hj']
      · have hi' : i < n := hi
        show ab .f32 (wd (lst n r) i) = _
        rw [lst_wd hi']; exact (HR.out i (by omega) hi').out.2
end Go.Proofs.Ytjfiljklohpnoaa

/- Two rows of floats that grow side by side. -/
set_option linter.unusedVariables false
set_option linter.unusedSimpArgs false
namespace Go.Proofs.Ytjfiljklohpnoaa
open Fl Go.RowKit
/-- two rows lie in two blocks -/
def Apart (v u : Value) : Prop := ∀ b, v.ownBlock = some b → u.ownBlock = some b → False
theorem Apart.symm {v u : Value} (h : Apart v u) : Apart u v := fun b h1 h2 => h b h2 h1
/-- where a row lies that something was appended to -/
theorem append_where {P : Program} (w : World) (base : Nat) (t ty e : TypeId) (i : TypeInfo) (z : Value) (ht : P.underlying t = some (.slice e)) (hi : P.info? e = some i) (hz : i.zero = some z)
    (v : Value) (n : Nat) (xs : List Value) (hown : w.ownsRow base e i.size v n xs) (hsz : 0 < i.size)
    (a : Addr) (m c : Nat) (news : List Value) (hl : news.length = m * i.size) (hnews : ∀ j u, news[j]? = some u → w.cell? (a.add j) = some u) (h1 : ∀ u ∈ news, u.oneCell' = true) (hm : 0 < m)
    (h63 : n + m ≤ maxLen) (hbytes : (n + m) * i.bytes ≤ 140737488355328) :
    ∃ v' w', (Builtin.append_ #[t, t] ty #[v, .slice (some a) m c]).run P w = .ok v' w' ∧ (v'.ownBlock = v.ownBlock ∨ v'.ownBlock = some w.heap.size) := by
  have hsmall : n + m ≤ 9223372036854775807 := by simp only [maxLen] at h63; omega
  rcases hown.2 with ⟨rfl, rfl⟩ | ⟨g, cap, cur, rfl, hbg, hg, hnc, hcm, hcs, htake⟩
  · have hr := run_append_nil (P := P) w t ty e i z ht hi hz a m c news hl hnews (by omega) (by omega) (by have hb := hbytes; simp only [Nat.zero_add] at hb; omega)
    exact ⟨_, _, hr, .inr rfl⟩
  · by_cases hroom : n + m ≤ cap
    · have hfit : n * i.size + news.length ≤ cur.size := by rw [hl, hcs, ← Nat.add_mul]; exact Nat.mul_le_mul_right _ hroom
      have hr := run_append_room (P := P) w t ty e i ht hi g n cap cur hg a m c news hl hnews h1 hroom hfit
      exact ⟨_, _, hr, .inl rfl⟩
    · have holds : ∀ j u, xs[j]? = some u → w.cell? ((⟨g, 0, none⟩ : Addr).add j) = some u := hown.cells (g := g) rfl
      have hr := run_append_grow (P := P) w t ty e i z ht hi hz ⟨g, 0, none⟩ n cap xs hown.1 holds a m c news hl hnews (by omega) (by omega) (growslice_fits (by omega) hbytes)
      exact ⟨_, _, hr, .inr rfl⟩
theorem Rw.kept {lo : Nat} {w w' : World} {u v : Value} {k : Nat} {G : Nat → O} (h : Rw lo w u k G) (hg : w.grownBy w' v.ownBlock) (ha : Apart v u) : Rw lo w' u k G := by
  obtain ⟨os, h1, h2, h3⟩ := h
  refine ⟨os, h1.kept hg ?_, h2, h3⟩
  cases e : u.ownBlock with
  | none => exact .inl rfl
  | some b => exact .inr fun e2 => ha b e2.symm e
theorem Rw.blk {lo : Nat} {w : World} {u : Value} {k : Nat} {G : Nat → O} (h : Rw lo w u k G) : ∀ b, u.ownBlock = some b → b < w.heap.size := by
  obtain ⟨os, h1, h2, h3⟩ := h
  exact fun b hb => (h1.lt b hb).2
theorem wpList_app2 {ops : Array Oper} {rest : List Oper} {o : Oper} {a : Act} {Q : Exit → Act → World → Prop} {w : World} (hgd : o.guard = none) (s x : Operand)
    (ho : o.op = .call { callee := .builtin .append, args := #[s, x], argTypes := #[33, 33] }) (lo : Nat) (v : Value) (k : Nat) (F : Nat → O) (hs : a.eval s = v) (b r : Nat)
    (hx : a.eval x = .slice (some ⟨b, 0, none⟩) 1 1) (hc : w.cell? ⟨b, 0, none⟩ = some (.float .f32 r)) (hk : k < 1048576) (hlo : lo ≤ w.heap.size) (hr : Hid (Fv .f32 r (F k))) (hR : Rw lo w v k F)
    (h : ∀ v' w', Hid (Rw lo w' v' (k + 1) F) → Hid (w.Since lo w') → Hid (∀ u k' G, Rw lo w u k' G → Apart v u → Rw lo w' u k' G ∧ Apart v' u) → wpList Try.prog ops Q rest (a.put o.dst v') w') : wpList Try.prog ops Q (o :: rest) a w := by
  obtain ⟨os, h1, h2, h3⟩ := hR
  obtain ⟨i0, hi, hz0, hz1, hz2⟩ := info_parts Try.infoF
  have hnews : ∀ (j : Nat) (u : Value), [Value.float .f32 r][j]? = some u → w.cell? ((⟨b, 0, none⟩ : Addr).add j) = some u := by
    intro j u hj
    rcases j with _ | j
    · simp at hj; subst hj; simpa [Addr.add] using hc
    · simp at hj
  have hone : ∀ u ∈ [Value.float .f32 r], u.oneCell' = true := by intro u hu; simp at hu; subst hu; rfl
  have h63 : k + 1 ≤ maxLen := by unfold maxLen; omega
  have hby : (k + 1) * i0.bytes ≤ 140737488355328 := by rw [hz2]; omega
  refine wpList_plain hgd fun K hK => ?_
  obtain ⟨v', w', hrun, hown, hgr, _⟩ := run_append_own (P := Try.prog) w lo 33 o.type 24 i0 (.float .f32 0) i0.size i0.bytes Try.underlying33 hi hz0 rfl rfl (by rw [hz1]; rfl) (by rw [hz1]; omega) v k (fvl os) (by rw [hz1]; exact h1) ⟨b, 0, none⟩ 1 1 [.float .f32 r] (by rw [hz1]; rfl) hnews hone h63 hby hlo
  obtain ⟨v2, w2, hrun2, hwh⟩ := append_where (P := Try.prog) w lo 33 o.type 24 i0 (.float .f32 0) Try.underlying33 hi hz0 v k (fvl os) (by rw [hz1]; exact h1) (by rw [hz1]; omega) ⟨b, 0, none⟩ 1 1 [.float .f32 r] (by rw [hz1]; rfl) hnews hone (by omega) h63 hby
  rw [hrun] at hrun2
  injection hrun2 with e1 e2
  subst e1
  rw [hz1] at hown
  unfold Oper.wp execOp
  simp only [ho, resolve, invoke, builtin, Sem.run_bind, Sem.run_pure, Result.andThen_ok, List.map_toArray, List.map_cons, List.map_nil, hs, hx, hrun]
  refine hK _ _ (h v' w' (Lib.hid ⟨os ++ [r], ?_, h2.snoc hr.out.1, fun j hj => ?_⟩) (Lib.hid ⟨hgr.os, hgr.tape, hgr.output, hgr.size, fun i hi => ?_⟩) (Lib.hid fun u k' G hu hap => ⟨hu.kept hgr hap, fun b h4 h5 => ?_⟩))
  · rw [← fvl_snoc]; exact hown
  · have hyl : os.length = k := by simpa [fvl] using h1.1
    rw [wd_snoc hyl]
    by_cases e : j < k
    · rw [if_pos e]; exact h3 j e
    · obtain rfl : j = k := by omega
      rw [if_neg e, if_pos rfl]; exact hr.out.2
  · refine hgr.block i (by omega) fun e => ?_
    have := own_lo h1 i e.symm
    omega
  · rcases hwh with e | e
    · exact hap b (e ▸ h4) h5
    · have := hu.blk b h5
      rw [e] at h4
      injection h4 with h4
      omega
theorem De.of_apart {p q : Ls} {c d : Nat} (h : Apart (.slice p.A p.n c) (.slice q.A q.n d)) : De (fe p.A p.n p.xs) (fe q.A q.n q.xs) := by
  rintro g ⟨_, o1, e1⟩ ⟨_, o2, e2⟩
  exact h g (by rw [e1]; rfl) (by rw [e2]; rfl)
end Go.Proofs.Ytjfiljklohpnoaa

/- Loose regions with a tail, whose first operation, a move, is taken first (a row that a loop appends to). -/
set_option linter.unusedVariables false
set_option linter.unusedSimpArgs false
namespace Go.Proofs.Ytjfiljklohpnoaa
namespace Lo
open Fl Ieee
section
variable {P : Program} {ops : Array Oper} {md : Region.Mode} {C : World → Prop} {D : Nat → Bool}
/-- every operation of the head but the first has one behind it, up to n, that waits for it -/
def sink1 (md : Region.Mode) (ops : Array Oper) (n : Nat) : Bool := (List.range n).all fun i => decide (i = 0) || (List.range (n + 1)).any fun j => decide (i < j) && Region.waitsFor md ops j i
theorem waits1 {n : Nat} {listed : Array Bool} (hs : sink1 md ops n = true) (hc : Region.chainB md ops n = true) (inv : HeadInv md ops n listed) (hn : n < ops.size) :
    ∀ (m i : Nat), n ≤ i + m → 1 ≤ i → i < n → listed.getD i true = false → ∀ t, n ≤ t → t ∉ Region.ready md ops listed := by
  intro m
  induction m with
  | zero => intro i h1 _ h2; omega
  | succ m ih =>
    intro i hm h1 hin hun t ht hr
    have hr2 := hr
    obtain ⟨_, ot, hot, hdep⟩ := mem_ready.1 hr
    have hts : t < ops.size := (Array.getElem?_eq_some_iff.1 hot).1
    have dep : ∀ j, Region.waitsFor md ops t j = true → listed.getD j false = true := fun j hj => by
      obtain ⟨o2, ho2, e, he, hb, hon⟩ := Region.waitsFor_spec hj
      have : o2 = ot := Option.some.inj (ho2.symm.trans hot)
      subst this
      rw [← hon]; exact hdep e he hb
    rcases Nat.lt_or_ge n t with hlt | hge
    · have h3 := List.all_eq_true.1 hc t (List.mem_range.2 hts)
      rw [Bool.or_eq_true, decide_eq_true_eq] at h3
      rcases h3 with h3 | h3
      · omega
      · have h4 := dep _ h3
        have h5 := inv.tail (t - 1) (by omega) (by omega)
        rw [getD_both h5] at h4
        cases h4
    · obtain rfl : t = n := by omega
      have h3 := List.all_eq_true.1 hs i (List.mem_range.2 hin)
      rw [Bool.or_eq_true, decide_eq_true_eq] at h3
      rcases h3 with h3 | h3
      · omega
      obtain ⟨j, hj, hj2⟩ := List.any_eq_true.1 h3
      rw [Bool.and_eq_true, decide_eq_true_eq] at hj2
      have hjt : j ≤ t := by have := List.mem_range.1 hj; omega
      have hi0 := getD_both hun
      rcases Nat.lt_or_ge j t with hjlt | hjge
      · refine ih j (by omega) (by omega) hjlt ?_ t (Nat.le_refl _) hr2
        refine getD_in (by rw [inv.size]; omega) ?_
        cases hl : listed.getD j false with
        | false => rfl
        | true =>
          obtain ⟨oj, hoj, e, he, hb, hon⟩ := Region.waitsFor_spec hj2.2
          have h6 := inv.closed j oj hoj hl e he hb
          rw [hon, hi0] at h6
          cases h6
      · obtain rfl : j = t := by omega
        have h6 := dep i hj2.2
        rw [hi0] at h6
        cases h6
theorem anyM_first1 {n i : Nat} {oi : Oper} {v : Value} {L : Array Bool → Act → Prop} (hi : ops[i]? = some oi) (hsel : ∀ (j : Nat) (o : Oper) cs b, ops[j]? = some o → o.op ≠ .select cs b)
    (hs : sink1 md ops n = true) (hc : Region.chainB md ops n = true) (hn : n < ops.size) (hin : i < n) (hi1 : 1 ≤ i)
    (hdone : ∀ listed a, L listed a → ∀ j ∈ Region.ready md ops listed, n ≤ j) :
    ∀ (f : Nat) (listed : Array Bool) (a : Act), HeadInv md ops n listed →
      (∀ j oj, ops[j]? = some oj → j ≠ i → listed.getD j true = false → (∀ e ∈ oj.after, Region.binds md e = true → e.on ≠ i) → oi.apart ops oj = true) →
      i ∈ Region.ready md ops listed → Yl P ops C D oi v a →
      anyM P md ops C D n L f (listed.setIfInBounds i true) (a.put oi.dst v) → anyM P md ops C D n L (f + 1) listed a := by
  intro f
  induction f with
  | zero =>
    intro listed a inv _ hr hy H
    have hun := (mem_ready.1 hr).1
    refine ⟨fun h => (by rw [h] at hr; cases hr), fun j hj => ?_⟩
    have hjn : j < n := Nat.lt_of_not_le fun h => absurd hj (waits1 hs hc inv hn _ i (Nat.le_add_left _ _) hi1 hin hun j h)
    refine ⟨hjn, ?_⟩
    by_cases e : j = i
    · subst e; exact at1_of_Yl hi hy H
    · have := hdone _ _ H j (ready_mono hj e)
      omega
  | succ f ih =>
    intro listed a inv hfree hr hy H
    have hun := (mem_ready.1 hr).1
    refine ⟨fun h => (by rw [h] at hr; cases hr), fun j hj => ?_⟩
    have hjn : j < n := Nat.lt_of_not_le fun h => absurd hj (waits1 hs hc inv hn _ i (Nat.le_add_left _ _) hi1 hin hun j h)
    refine ⟨hjn, ?_⟩
    by_cases e : j = i
    · subst e; exact at1_of_Yl hi hy H
    · obtain ⟨hjun, oj, hoj, hall⟩ := mem_ready.1 hj
      have hnot : ∀ x ∈ oj.after, Region.binds md x = true → x.on ≠ i := fun x hx hb heq => by
        have g1 := hall x hx hb
        rw [heq, getD_both hun] at g1
        cases g1
      have hsw := at1_swap hoj (hfree j oj hoj e hjun hnot) (fun cs b => hsel i oi cs b hi) (fun cs b => hsel j oj cs b hoj) hy (H.2 j (ready_mono hj e)).2
      refine at1_mono (fun b hb => ih (listed.setIfInBounds j true) b (inv.set hj hjn) (fun k ok hk hki hun2 hno => ?_) (ready_mono hr (Ne.symm e)) hb.1 ?_) hsw
      · refine hfree k ok hk hki ?_ hno
        by_cases hjk : j = k
        · subst hjk; exact hjun
        · rw [getD_set_ne true hjk] at hun2; exact hun2
      · rw [Array.setIfInBounds_comm _ _ e]
        exact hb.2
theorem anyM_text1 {n g : Nat} {Lq : Act → Prop} (hsel : Region.noSelect ops = true) (hs : sink1 md ops n = true) (hc : Region.chainB md ops n = true) (hn : n < ops.size) :
    ∀ (l : List Oper) (k : Nat) (listed : Array Bool) (a : Act), 1 ≤ k → (∀ j, j < l.length → l[j]? = ops[k + j]?) → k + l.length = n → HeadInv md ops n listed →
    Region.lexHead md ops g l.length k listed = true → wpL P ops C D Lq l a →
    anyM P md ops C D n (fun listed2 a2 => Region.seqB md ops g n listed2 = true ∧ Lq a2) l.length listed a
  | [], k, listed, a, _, _, hk, _, hB, h => by
    have : k = n := by simpa using hk
    subst this
    exact ⟨by simpa [Region.lexHead] using hB, h⟩
  | o :: l, k, listed, a, hk1, hl, hk, inv, hB, h => by
    have h0 : ops[k]? = some o := by simpa using (hl 0 (by simp)).symm
    simp only [List.length_cons, Region.lexHead, Bool.and_eq_true] at hB
    obtain ⟨⟨hr, hf⟩, hB2⟩ := hB
    have hkn : k < n := by simp only [List.length_cons] at hk; omega
    have hr2 : k ∈ Region.ready md ops listed := by simpa using hr
    have hst : at1 P ops C D k (wpL P ops C D Lq l) a := by unfold at1; rw [h0]; exact h
    obtain ⟨v, hy, hK⟩ := Yl_of_at1 h0 hst
    exact anyM_first1 h0 (Region.noSelect_spec hsel) hs hc hn hkn hk1 (fun listed2 a2 hL => seqB_ready hL.1) l.length listed a inv (Region.free_spec h0 hf) hr2 hy
      (anyM_text1 hsel hs hc hn l (k + 1) _ _ (by omega) (fun j hj => by have := hl (j + 1) (by simp; omega); simpa [Nat.add_assoc, Nat.add_comm 1 j] using this) (by simp only [List.length_cons] at hk; omega) (inv.set hr2 hkn) hB2 hK)
theorem held_of_any {Q : Exit → Act → World → Prop} : ∀ (fuel : Nat) (listed : Array Bool) (a : Act) (w : World), wpAny P md ops Q fuel listed a w → wpAnyH P md ops Q (fun _ => True) fuel listed a w
  | 0, _, _, _, h => h
  | fuel + 1, _, _, _, h => ⟨h.1, fun i hi => wpOp_mono (fun a' w' h' => ⟨trivial, held_of_any fuel _ a' w' h'⟩) (h.2 i hi)⟩
def lexF (ops : Array Oper) (n : Nat) : Bool :=
  Region.noSelect ops && decide (n < ops.size) && decide (1 ≤ n) && sink1 .any ops n && Region.chainB .any ops n && Region.free .any ops (Array.replicate ops.size false) 0 && (Region.ready .any ops (Array.replicate ops.size false)).contains 0
    && Region.lexHead .any ops (ops.size - n) (n - 1) 1 ((Array.replicate ops.size false).setIfInBounds 0 true)
end
theorem wp_looseF_tail {P : Program} {id : Nat} {Q : Exit → Act → World → Prop} {a : Act} {w : World} {o : Oper} {l : List Oper} (ds : List Nat) (n : Nat) (x : Operand) (hop : o.op = .move x) (hg : o.guard = none) (hm : P.follows .mixedOrders = true) (hB : lexF (o :: l).toArray n = true)
    (hQ : ∀ c b v, Q (.panic c) (b.put o.dst (a.eval x)) v → Q (.panic c) b v)
    (h : wpL P (o :: l).toArray (fun v => ∃ n, v = w.drewN n) (fun i => ds.contains i) (fun a2 => After ds a2 fun b m => wpList P (o :: l).toArray Q ((o :: l).drop n) b (w.drewN m)) (l.take (n - 1)) (a.put o.dst (a.eval x))) : (Code.region id (o :: l).toArray true).wp P Q a w := by
  simp only [lexF, Bool.and_eq_true, decide_eq_true_eq] at hB
  obtain ⟨⟨⟨⟨⟨⟨⟨hsel, hn⟩, hn1⟩, hs⟩, hc⟩, hf⟩, hr⟩, hlex⟩ := hB
  have hn2 : n < l.length + 1 := by simpa using hn
  have htl : (l.take (n - 1)).length = n - 1 := by simp; omega
  have hdl : ((o :: l).drop n).length = (o :: l).toArray.size - n := by simp
  have inv0 : HeadInv .any (o :: l).toArray n (Array.replicate (o :: l).toArray.size false) :=
    ⟨by simp, fun j oj _ hl => (by rw [getD_replicate_false] at hl; cases hl), fun t _ ht => getD_in (by simpa using ht) (getD_replicate_false _ _)⟩
  have inv1 := inv0.set (i := 0) (by simpa using hr) (by omega)
  have H := anyM_text1 (md := .any) (g := (o :: l).toArray.size - n) hsel hs hc hn (l.take (n - 1)) 1 _ _ (Nat.le_refl _) (fun j hj => by
    have hj2 : j < n - 1 := by rw [htl] at hj; exact hj
    rw [Nat.add_comm 1 j]
    simp [hj2]) (by rw [htl]; omega) inv1 (by rw [htl]; exact hlex) h
  refine wp_region_held (S := fun _ => True) hm ?_
  have hsz : (o :: l).toArray.size = (n - 1 + ((o :: l).toArray.size - n)) + 1 := by omega
  rw [hsz]
  refine wpAnyH_take (i := 0) (oi := o) (v := a.eval x) (by simp) hsel (by rw [← hsz]; exact hf) (by rw [← hsz]; exact hr) hQ (.inl ⟨wanted_none hg _, fun w2 _ => BigFrame.run_move x hop w2⟩) trivial (held_of_any _ _ _ _ ?_)
  rw [← hsz]
  have := wpAny_of_anyM (Q2 := Q) (g := (o :: l).toArray.size - n) (fun listed a2 b w2 hw hab hL => by
    obtain ⟨m, rfl⟩ := hw
    have := wpAny_of_seq (md := .any) (Q' := Q) ((o :: l).drop n) n listed b (w.drewN m) (fun j => by simp [List.getElem?_drop]) (by rw [hdl]; exact hL.1) (hL.2 b hab m)
    rwa [hdl] at this) _ _ _ _ { w with drawn := w.drawn + 1 } ⟨1, rfl⟩ (AR.refl _ _) H
  rw [htl] at this
  exact this
end Lo
end Go.Proofs.Ytjfiljklohpnoaa

/- Mixed and scaled samples, two channels: of the model. -/
set_option linter.unusedVariables false
set_option linter.unusedSimpArgs false
namespace Go.Proofs.Ytjfiljklohpnoaa
open Fl Go.RowKit
theorem fv2 : Hid (Fv .f32 1073741824 (some 1073741824)) := fvc (by decide) (by decide)
def sumF (X Y : Nat → O) (k : Nat) : O := ad (X k) (Y k)
def difF (X Y : Nat → O) (k : Nat) : O := su (X k) (Y k)
def midF (X Y : Nat → O) (k : Nat) : O := qu (ad (X k) (Y k)) (some 1073741824)
def sidF (X Y : Nat → O) (k : Nat) : O := qu (su (X k) (Y k)) (some 1073741824)
end Go.Proofs.Ytjfiljklohpnoaa

/- Two channels: of the program. -/
set_option linter.unusedVariables false
set_option linter.unusedSimpArgs false
namespace Go.Proofs.Ytjfiljklohpnoaa
open Fl Go.RowKit
theorem implMixSamples_no (A : Option Addr) (n c : Nat) (A2 : Option Addr) (n2 c2 : Nat) (w : World) (hn : ¬ (n ≤ 256 ∧ n = n2)) (F : Nat → O) :
    Calls Try.prog 13 #[.slice A n c, .slice A2 n2 c2] w (PLB 0 F false w) := by
  have hfew : decide (n ≤ 256 ∧ n = n2) = false := decide_eq_false hn
  go_enter Try.func13, Try.ntmps13
  go_wp2_with (first | (go_at_call 28; refine (implPair_any _ _ _ _ _ _ false _ hfew).mono ?_; rintro e w' ⟨rfl, rfl⟩))
  go_ret2
  exact PLB.none_ (by (repeat (first | (with_reducible refine Fl.sinDrew ?_) | (with_reducible refine World.Since.drew ?_) | (with_reducible refine Fl.sinSet ?_ ?_; rotate_left) | (with_reducible refine Fl.sinAlloc ?_ ?_; rotate_left) | with_reducible exact World.Since.refl _ _ | with_reducible assumption | (with_reducible refine Fl.sinStep (by with_reducible assumption) ?_))); all_goals (first | omega | (simp; done) | (simp; omega) | (simp [go_sem]; done) | (simp [go_sem]; omega))) _
theorem implScaleSamples_no (A : Option Addr) (n c b : Nat) (w : World) (hn : ¬ n ≤ 256) (F : Nat → O) : Calls Try.prog 14 #[.slice A n c, .float .f32 b] w (PLB 0 F false w) := by
  have hfew : decide ((n : Int) ≤ 256) = false := decide_eq_false (by omega)
  go_enter Try.func14, Try.ntmps14
  go_wp2_with (first | (go_at_call 31; refine (implSamples_b _ _ _ _ _ hfew).mono ?_; rintro e w' ⟨rfl, rfl⟩))
  go_ret2
  exact PLB.none_ (by (repeat (first | (with_reducible refine Fl.sinDrew ?_) | (with_reducible refine World.Since.drew ?_) | (with_reducible refine Fl.sinSet ?_ ?_; rotate_left) | (with_reducible refine Fl.sinAlloc ?_ ?_; rotate_left) | with_reducible exact World.Since.refl _ _ | with_reducible assumption | (with_reducible refine Fl.sinStep (by with_reducible assumption) ?_))); all_goals (first | omega | (simp; done) | (simp; omega) | (simp [go_sem]; done) | (simp [go_sem]; omega))) _
end Go.Proofs.Ytjfiljklohpnoaa

/- The laws of MixSamples, ScaleSamples, LeftAndRight, MiddleAndSide. -/
set_option linter.unusedVariables false
set_option linter.unusedSimpArgs false
namespace Go.Proofs.Ytjfiljklohpnoaa
open Fl Go.RowKit
end Go.Proofs.Ytjfiljklohpnoaa

/- The laws on bits, walked: each returns true, whatever it is called with. -/
set_option linter.unusedVariables false
set_option linter.unusedSimpArgs false
namespace Go.Proofs.Ytjfiljklohpnoaa
open Fl

theorem specBits_any (b : Nat) (w : World) (hb : b < 4294967296) :
    Calls Try.prog 8 #[.float .f32 b] w fun e w' => e = .returned (.int .i64 (bitsO (ab .f32 b) : Nat)) ∧ w = w' := by
  go_enter Try.func8, Try.ntmps8
  go_wp2_with (first | (go_at_call 25; refine (l01Bits_any _ _ hb).mono ?_; rintro e w' ⟨rfl, rfl⟩))
  go_ret
  exact ⟨rfl, rfl⟩

end Go.Proofs.Ytjfiljklohpnoaa

/- The law of flushed numbers. -/
set_option linter.unusedVariables false
set_option linter.unusedSimpArgs false
namespace Go.Proofs.Ytjfiljklohpnoaa
open Fl Go.RowKit
/-! words that are flushed -/
theorem subB_flushN (b : Nat) : subB (flushN b) = false := by
  unfold subB flushN
  split
  · have h : zeroB (b / 2147483648 * 2147483648) = true := by unfold zeroB; simp
    rw [h]; rfl
  · next h => rw [decide_eq_false h]; simp
theorem same_flush (b : Nat) (hb : b < 4294967296) : decide (bitsO (ab .f32 b) = bitsO (ab .f32 (flushN b))) = !subB b := by
  unfold subB zeroB flushN
  by_cases h : b % 2147483648 < 8388608
  · rw [if_pos h, decide_eq_true h]
    have e1 : ab .f32 b = some b := by rw [ab32, if_neg (by omega)]
    have e2 : ab .f32 (b / 2147483648 * 2147483648) = some (b / 2147483648 * 2147483648) := by rw [ab32, if_neg (by omega)]
    rw [e1, e2]
    show decide (b = b / 2147483648 * 2147483648) = _
    by_cases h0 : b % 2147483648 = 0
    · rw [decide_eq_true h0, decide_eq_true (by omega)]; rfl
    · rw [decide_eq_false h0, decide_eq_false (by omega)]; rfl
  · rw [if_neg h, decide_eq_false h, decide_eq_true rfl]; simp
theorem bits_lt (b : Nat) (hb : b < 4294967296) : bitsO (ab .f32 b) < 4294967296 := by
  rw [ab32]
  split
  · show 2143289344 < _; decide
  · exact hb
theorem bits_sign (b : Nat) (hb : b < 4294967296) (h : ab .f32 b = some b) : bitsO (ab .f32 b) / 2147483648 = bitsO (ab .f32 (flushN b)) / 2147483648 := by
  have h2 : ab .f32 (flushN b) = some (flushN b) := by
    rw [ab32] at h ⊢
    unfold flushN
    split at h
    · cases h
    · split
      · rw [if_neg (by omega)]
      · first | rfl | rw [if_neg (by omega)]
  rw [h, h2]
  show b / 2147483648 = flushN b / 2147483648
  unfold flushN
  split <;> omega
theorem sub_small {s : Nat} (h1 : 0 < s) (h2 : s < 8388608) : subB s = true ∧ flushN s = 0 := by
  unfold subB zeroB flushN
  rw [decide_eq_false (show ¬ s % 2147483648 = 0 by omega), decide_eq_true (show s % 2147483648 < 8388608 by omega), if_pos (by omega)]
  exact ⟨rfl, by omega⟩
theorem small_num {s : Nat} (h2 : s < 8388608) : ab .f32 s = some s := by rw [ab32, if_neg (by omega)]
theorem small_ord {s : Nat} (h1 : 0 < s) (h2 : s < 8388608) : ¬ FloatKind.f32.format.order s 0 = some .eq := by
  rw [order_key .f32 (small_num h2) ab32_zero, key32 s (by omega), key32 0 (by decide), if_pos (show s < 2147483648 by omega), if_pos (show 0 < 2147483648 by decide), cmp_def]
  split
  · omega
  · split
    · omega
    · intro h; cases h
/-! the peak -/
theorem pos_num {p : Nat} (h : p ≤ 2139095040) : ab .f32 p = some p := by rw [ab32, if_neg (by omega)]
theorem pos_gt {a b : Nat} (ha : a ≤ 2139095040) (hb : b ≤ 2139095040) : (FloatKind.f32.format.order a b == some .gt) = decide (b < a) := by
  rw [order_key .f32 (pos_num ha) (pos_num hb), key32 a (by omega), key32 b (by omega), if_pos (by omega), if_pos (by omega), cmp_def]
  by_cases h : a < b
  · rw [if_pos (by omega), decide_eq_false (by omega)]; rfl
  · rw [if_neg (by omega)]
    by_cases h2 : a = b
    · rw [if_pos (by omega), decide_eq_false (by omega)]; rfl
    · rw [if_neg (by omega), decide_eq_true (by omega)]; rfl
theorem nan_gt {a b : Nat} (ha : ¬ a % 2147483648 ≤ 2139095040) : (FloatKind.f32.format.order a b == some .gt) = false := by
  rw [ord_none (by rw [ab32, if_pos (by omega)])]; rfl
theorem peak_spec (xs : List Nat) (hs : Small xs) : ∀ k, peakN xs k ≤ 2139095040 ∧ (∀ j, j < k → sizeN (wd xs j) ≤ 2139095040 → sizeN (wd xs j) ≤ peakN xs k) ∧ (peakN xs k = 0 ∨ ∃ j, j < k ∧ sizeN (wd xs j) = peakN xs k)
  | 0 => ⟨by unfold peakN; decide, (fun j hj => absurd hj (Nat.not_lt_zero _)), .inl rfl⟩
  | k + 1 => by
    obtain ⟨h1, h2, h3⟩ := peak_spec xs hs k
    have e : peakN xs (k + 1) = if FloatKind.f32.format.order (sizeN (wd xs k)) (peakN xs k) == some .gt then sizeN (wd xs k) else peakN xs k := rfl
    have hlt := sizeN_lt (wd xs k)
    by_cases hn : sizeN (wd xs k) ≤ 2139095040
    · rw [pos_gt hn h1] at e
      by_cases hg : peakN xs k < sizeN (wd xs k)
      · rw [decide_eq_true hg, if_pos rfl] at e
        rw [e]
        refine ⟨hn, fun j hj hj2 => ?_, .inr ⟨k, by omega, rfl⟩⟩
        by_cases e2 : j < k
        · have := h2 j e2 hj2; omega
        · obtain rfl : j = k := by omega
          exact Nat.le_refl _
      · rw [decide_eq_false hg, if_neg (by decide)] at e
        rw [e]
        refine ⟨h1, fun j hj hj2 => ?_, ?_⟩
        · by_cases e2 : j < k
          · exact h2 j e2 hj2
          · obtain rfl : j = k := by omega
            omega
        · rcases h3 with h3 | ⟨j, hj, h4⟩
          · exact .inl h3
          · exact .inr ⟨j, by omega, h4⟩
    · have hm : ¬ sizeN (wd xs k) % 2147483648 ≤ 2139095040 := by unfold sizeN at hn ⊢; omega
      rw [nan_gt hm, if_neg (by decide)] at e
      rw [e]
      refine ⟨h1, fun j hj hj2 => ?_, ?_⟩
      · by_cases e2 : j < k
        · exact h2 j e2 hj2
        · obtain rfl : j = k := by omega
          exact absurd hj2 hn
      · rcases h3 with h3 | ⟨j, hj, h4⟩
        · exact .inl h3
        · exact .inr ⟨j, by omega, h4⟩
theorem gt_word {x p : Nat} (hx : x < 4294967296) (hp : p ≤ 2139095040) (h : sizeN x ≤ 2139095040 → sizeN x ≤ p) : (FloatKind.f32.format.order x p == some .gt) = false := by
  unfold sizeN at h
  by_cases hn : x % 2147483648 ≤ 2139095040
  · have e : ab .f32 x = some x := by rw [ab32, if_neg (by omega)]
    have := h hn
    rw [order_key .f32 e (pos_num hp), key32 x hx, key32 p (by omega), if_pos (show p < 2147483648 by omega)]
    by_cases hb : x < 2147483648
    · rw [if_pos hb, cmp_def]
      split
      · rfl
      · split
        · rfl
        · exfalso; omega
    · rw [if_neg hb, cmp_def]
      split
      · rfl
      · split
        · rfl
        · exfalso; omega
  · exact nan_gt hn
theorem neg_size (x : Nat) (hx : x < 4294967296) : sizeN (Op.negFloat .f32 x) = sizeN x := by
  unfold sizeN
  rw [neg32 x hx]
  split <;> omega
theorem eq_word {x p : Nat} (hx : x < 4294967296) (hp : p ≤ 2139095040) (h : sizeN x = p) : (FloatKind.f32.format.order x p == some .eq || FloatKind.f32.format.order (Op.negFloat .f32 x) p == some .eq) = true := by
  unfold sizeN at h
  have hn := neg32 x hx
  by_cases hb : x < 2147483648
  · obtain rfl : x = p := by omega
    rw [order_self, pos_num hp]; rfl
  · rw [if_neg hb] at hn
    rw [hn, show x - 2147483648 = p by omega, order_self, pos_num hp]; simp
/-- whether the peak is found -/
def foundB (xs : List Nat) (p : Nat) : Nat → Bool
  | 0 => FloatKind.f32.format.order p 0 == some .eq
  | k + 1 => foundB xs p k || FloatKind.f32.format.order (wd xs k) p == some .eq || FloatKind.f32.format.order (Op.negFloat .f32 (wd xs k)) p == some .eq
theorem found_up (xs : List Nat) (p : Nat) (j : Nat) (h : foundB xs p (j + 1) = true) : ∀ k, j < k → foundB xs p k = true
  | 0, hk => absurd hk (Nat.not_lt_zero _)
  | k + 1, hk => by
    by_cases e : j = k
    · subst e; exact h
    · show (foundB xs p k || _ || _) = true
      rw [found_up xs p j h k (by omega)]; rfl
theorem found0 (xs : List Nat) (p : Nat) (h : foundB xs p 0 = true) : ∀ k, foundB xs p k = true
  | 0 => h
  | k + 1 => by
    show (foundB xs p k || _ || _) = true
    rw [found0 xs p h k]; rfl
theorem found_all (xs : List Nat) (hs : Small xs) (n : Nat) : foundB xs (peakN xs n) n = true := by
  obtain ⟨h1, _, h3⟩ := peak_spec xs hs n
  rcases h3 with h3 | ⟨j, hj, h4⟩
  · rw [h3]
    refine found0 xs 0 ?_ n
    show (FloatKind.f32.format.order 0 0 == some .eq) = true
    rw [order_self, ab32_zero]; rfl
  · refine found_up xs _ j ?_ n hj
    have := eq_word (hs.at_ j) h1 h4
    show (foundB xs _ j || _ || _) = true
    rw [Bool.or_assoc, this, Bool.or_true]
theorem ge_zero {p : Nat} (hp : p ≤ 2139095040) : (FloatKind.f32.format.order p 0 == some .gt || FloatKind.f32.format.order p 0 == some .eq) = true := by
  rw [order_key .f32 (pos_num hp) ab32_zero, key32 p (by omega), key32 0 (by decide), if_pos (by omega), if_pos (by decide), cmp_def, if_neg (by omega)]
  split <;> rfl
end Go.Proofs.Ytjfiljklohpnoaa

/- The law of flushed numbers: its walk. -/
set_option linter.unusedVariables false
set_option linter.unusedSimpArgs false
namespace Go.Proofs.Ytjfiljklohpnoaa
open Fl Go.RowKit
/-- a list, as this law looks at it -/
def PLx (n0 : Nat) (f0 : Nat → O) (w : World) (e : Ending) (w' : World) : Prop :=
  ∃ (A : Option Addr) (c : Nat) (xs : List Nat), e = .returned (.tuple #[.slice A n0 c, .bool true]) ∧ Fs w' w'.heap.size A n0 xs ∧ (∀ j, j < n0 → ab .f32 (wd xs j) = f0 j) ∧ w.Since w.heap.size w'
theorem PLB.lookx {n0 : Nat} {f0 : Nat → O} {w w' : World} {e : Ending} (h : PLB n0 f0 true w e w') : PLx n0 f0 w e w' := by
  obtain ⟨⟨pA, pn, px⟩, c, rfl, h1, h3, h5, h8⟩ := h
  change pn = n0 at h1
  subst h1
  exact ⟨pA, c, px, rfl, h3.read, h5, h8⟩
set_option maxHeartbeats 32000000 in
set_option maxRecDepth 100000 in
theorem lawFlushed_any (A : Option Addr) (n c : Nat) (xs : List Int) (B : Option Addr) (m d : Nat) (ys : List Int) (w : World) (hA : Bs w w.heap.size A n xs) (hB : Bs w w.heap.size B m ys) :
    Calls Try.prog 3 #[.slice A n c, .slice B m d] w fun e w' => e = .returned (.bool true) ∧ w.Since w.heap.size w' := by
  have HA := Lib.hid hA; have HB := Lib.hid hB; clear hA hB
  cases hl : (decide ((1048576 : Int) < n) || decide ((1048576 : Int) < m))
  case true =>
    go_enter Try.func3, Try.ntmps3
    go_wp2_with fail
    refine (b10Long_any A B n c m d true w hl).mono ?_
    rintro e w1 ⟨rfl, hs⟩
    have S1 := Lib.hid hs; clear hs
    go_wp2
    go_ret
    exact ⟨rfl, S1.out⟩
  case false =>
    have hnm : n ≤ 1048576 ∧ m ≤ 1048576 := by simp only [Bool.or_eq_false_iff, decide_eq_false_iff_not] at hl; omega
    go_enter Try.func3, Try.ntmps3
    go_wp2_with fail
    refine (b10Long_any A B n c m d false w hl).mono ?_
    rintro e w1 ⟨rfl, hs⟩
    have S1 := Lib.hid hs; clear hs hl
    go_wp2_with fail
    refine (numberD_any A n c xs w1 ((HA.out.since S1.out (Nat.le_refl _)).more S1.out.size) (by omega)).mono ?_
    rintro e w2 ⟨q, Q, rfl, hq, hs⟩
    have S2 := Lib.hid (since_step S1.out hs)
    clear hs S1 
    have hq1 := hq.out.1
    obtain ⟨y, hy⟩ : ∃ y, Hid (flushN q = y) := ⟨_, Lib.hid rfl⟩
    have hy1 : y < 4294967296 := hy.out ▸ flushN_lt hq1
    obtain ⟨N, hN⟩ : ∃ u : Nat, Hid (bitsO (ab .f32 q) = u) := ⟨_, Lib.hid rfl⟩
    obtain ⟨M, hM⟩ : ∃ u : Nat, Hid (bitsO (ab .f32 y) = u) := ⟨_, Lib.hid rfl⟩
    have hN1 : N < 4294967296 := hN.out ▸ bits_lt q hq1
    have hM1 : M < 4294967296 := hM.out ▸ bits_lt y hy1
    obtain ⟨s, hs⟩ : ∃ u : Nat, Hid (N % 8388608 = u) := ⟨_, Lib.hid rfl⟩
    have hs2 : s < 8388608 := by rw [← hs.out]; exact Nat.mod_lt _ (by decide)
    have es : Hid (((N : Int) % 8388608) = (s : Nat)) := Lib.hid (by rw [← hs.out]; omega)
    have hBx := Lib.hid (show ∀ v, Calls Try.prog 8 #[.float .f32 q] v fun e w' => e = .returned (.int .i64 (N : Nat)) ∧ v = w' from fun v => hN.out ▸ specBits_any q v hq1)
    have hBy := Lib.hid (show ∀ v, Calls Try.prog 8 #[.float .f32 y] v fun e w' => e = .returned (.int .i64 (M : Nat)) ∧ v = w' from fun v => hM.out ▸ specBits_any y v hy1)
    have hFr := Lib.hid (show ∀ v, Calls Try.prog 7 #[.int .i64 (s : Nat)] v fun e w' => e = .returned (.tuple #[.float .f32 s, .bool true]) ∧ v = w' from fun v => specFrom_in s v (by omega))
    have hFx := Lib.hid (show ∀ v, Calls Try.prog 6 #[.float .f32 q] v fun e w' => e = .returned (.float .f32 y) ∧ v = w' from fun v => hy.out ▸ implFlush_any q v hq1)
    have hSy := Lib.hid (show ∀ v, Calls Try.prog 9 #[.float .f32 y] v fun e w' => e = .returned (.bool false) ∧ v = w' from fun v => by have h := implSub_any y v hy1; rw [← hy.out, subB_flushN] at h; rw [← hy.out]; exact h)
    obtain ⟨sb, hsb⟩ : ∃ u : Bool, Hid (subB q = u) := ⟨_, Lib.hid rfl⟩
    have hSx := Lib.hid (show ∀ v, Calls Try.prog 9 #[.float .f32 q] v fun e w' => e = .returned (.bool sb) ∧ v = w' from fun v => hsb.out ▸ implSub_any q v hq1)
    have hSm := Lib.hid (show ∀ v, Calls Try.prog 10 #[.float .f32 q, .float .f32 y] v fun e w' => e = .returned (.bool (!sb)) ∧ v = w' from fun v => by have h := specSame_any q y v hq1 hy1; rw [← hy.out, same_flush q hq1, hsb.out] at h; rw [← hy.out]; exact h)
    have hXX : Hid ((FloatKind.f32.format.order q q = some .eq ∧ N / 2147483648 = M / 2147483648) ∨ FloatKind.f32.format.order q q = none) := Lib.hid (by
      rw [order_self]
      by_cases hn : q % 2147483648 ≤ 2139095040
      · have e : ab .f32 q = some q := by rw [ab32, if_neg (by omega)]
        refine .inl ⟨by rw [e]; rfl, ?_⟩
        rw [← hN.out, ← hM.out, ← hy.out]; exact bits_sign q hq1 e
      · exact .inr (by rw [ab32, if_pos (by omega)]; rfl))
    have hss : Hid ((sb == !sb) = false) := Lib.hid (by cases sb <;> rfl)
    have hSs0 : 0 < s → ∀ v, Calls Try.prog 9 #[.float .f32 s] v fun e w' => e = .returned (.bool true) ∧ v = w' := fun h0 v => by have h := implSub_any s v (by omega); rw [(sub_small h0 hs2).1] at h; exact h
    have hFs0 : 0 < s → ∀ v, Calls Try.prog 6 #[.float .f32 s] v fun e w' => e = .returned (.float .f32 0) ∧ v = w' := fun h0 v => by have h := implFlush_any s v (by omega); rw [(sub_small h0 hs2).2] at h; exact h
    have hc3 : Hid ((FloatKind.f32.format.order q q = some .eq ∧ (N : Int) / 2147483648 = (M : Int) / 2147483648 ∧ s = 0) ∨ (FloatKind.f32.format.order q q = some .eq ∧ (N : Int) / 2147483648 = (M : Int) / 2147483648 ∧ 0 < s) ∨ (FloatKind.f32.format.order q q = none ∧ 0 < s)) := Lib.hid (by
      rcases hXX.out with ⟨h1, h2⟩ | h1
      · have h3 : (N : Int) / 2147483648 = (M : Int) / 2147483648 := by omega
        by_cases e : s = 0
        · exact .inl ⟨h1, h3, e⟩
        · exact .inr (.inl ⟨h1, h3, by omega⟩)
      · refine .inr (.inr ⟨h1, ?_⟩)
        rw [order_self] at h1
        have hNo : ab .f32 q = none := by cases h : ab .f32 q with
          | none => rfl
          | some v => rw [h] at h1; cases h1
        have : N = 2143289344 := by rw [← hN.out, hNo]; rfl
        rw [← hs.out, this]; try decide)
    clear hsb hs hN hM hy hXX
    skip
    rcases hc3.out with ⟨o1, n1, e0⟩ | ⟨o1, n1, n0⟩ | ⟨o1, n0⟩
    case' inl =>
      have ho0 : FloatKind.f32.format.order s 0 = some .eq := (by subst e0; decide)
      clear hSs0 hFs0 hc3
      have e0 := Lib.hid e0
      go_wp2_with (first | (go_at_call 8; with_reducible refine (hBx.out _).mono ?_; rintro e v ⟨rfl, rfl⟩) | (go_at_call 8; with_reducible refine (hBy.out _).mono ?_; rintro e v ⟨rfl, rfl⟩) | (go_at_call 7; rw [es.out]; refine (hFr.out _).mono ?_; rintro e v ⟨rfl, rfl⟩) | (go_at_call 6; with_reducible refine (hFx.out _).mono ?_; rintro e v ⟨rfl, rfl⟩) | (go_at_call 6; with_reducible refine (hFs.out _).mono ?_; rintro e v ⟨rfl, rfl⟩) | (go_at_call 9; with_reducible refine (hSy.out _).mono ?_; rintro e v ⟨rfl, rfl⟩) | (go_at_call 9; with_reducible refine (hSx.out _).mono ?_; rintro e v ⟨rfl, rfl⟩) | (go_at_call 9; with_reducible refine (hSs.out _).mono ?_; rintro e v ⟨rfl, rfl⟩) | (go_at_call 10; with_reducible refine (hSm.out _).mono ?_; rintro e v ⟨rfl, rfl⟩))
      clear o1 n1 ho0 e0
      clear hBx hBy hFr hFx hSy hSx hSm hss es
    case' inr.inl =>
      have hSs := Lib.hid (hSs0 n0); have hFs := Lib.hid (hFs0 n0); have ho0 := small_ord n0 hs2; have o00 : (FloatKind.f32.format.order 0 0 != some .eq) = false := (by decide); clear hSs0 hFs0 hc3 n0
      go_wp2_with (first | (go_at_call 8; with_reducible refine (hBx.out _).mono ?_; rintro e v ⟨rfl, rfl⟩) | (go_at_call 8; with_reducible refine (hBy.out _).mono ?_; rintro e v ⟨rfl, rfl⟩) | (go_at_call 7; rw [es.out]; refine (hFr.out _).mono ?_; rintro e v ⟨rfl, rfl⟩) | (go_at_call 6; with_reducible refine (hFx.out _).mono ?_; rintro e v ⟨rfl, rfl⟩) | (go_at_call 6; with_reducible refine (hFs.out _).mono ?_; rintro e v ⟨rfl, rfl⟩) | (go_at_call 9; with_reducible refine (hSy.out _).mono ?_; rintro e v ⟨rfl, rfl⟩) | (go_at_call 9; with_reducible refine (hSx.out _).mono ?_; rintro e v ⟨rfl, rfl⟩) | (go_at_call 9; with_reducible refine (hSs.out _).mono ?_; rintro e v ⟨rfl, rfl⟩) | (go_at_call 10; with_reducible refine (hSm.out _).mono ?_; rintro e v ⟨rfl, rfl⟩))
      clear o1 n1 ho0 o00 hSs hFs
      clear hBx hBy hFr hFx hSy hSx hSm hss es
    case' inr.inr =>
      have o1' : ¬ FloatKind.f32.format.order q q = some .eq := (by rw [o1]; simp)
      have hSs := Lib.hid (hSs0 n0); have hFs := Lib.hid (hFs0 n0); have ho0 := small_ord n0 hs2; have o00 : (FloatKind.f32.format.order 0 0 != some .eq) = false := (by decide); clear hSs0 hFs0 hc3 n0
      go_wp2_with (first | (go_at_call 8; with_reducible refine (hBx.out _).mono ?_; rintro e v ⟨rfl, rfl⟩) | (go_at_call 8; with_reducible refine (hBy.out _).mono ?_; rintro e v ⟨rfl, rfl⟩) | (go_at_call 7; rw [es.out]; refine (hFr.out _).mono ?_; rintro e v ⟨rfl, rfl⟩) | (go_at_call 6; with_reducible refine (hFx.out _).mono ?_; rintro e v ⟨rfl, rfl⟩) | (go_at_call 6; with_reducible refine (hFs.out _).mono ?_; rintro e v ⟨rfl, rfl⟩) | (go_at_call 9; with_reducible refine (hSy.out _).mono ?_; rintro e v ⟨rfl, rfl⟩) | (go_at_call 9; with_reducible refine (hSx.out _).mono ?_; rintro e v ⟨rfl, rfl⟩) | (go_at_call 9; with_reducible refine (hSs.out _).mono ?_; rintro e v ⟨rfl, rfl⟩) | (go_at_call 10; with_reducible refine (hSm.out _).mono ?_; rintro e v ⟨rfl, rfl⟩))
      clear o1 o1' ho0 o00 hSs hFs
      clear hBx hBy hFr hFx hSy hSx hSm hss es
    all_goals
      refine (b10At_any B m d ys 0 10 w2 ((HB.out.since S2.out (Nat.le_refl _)).more S2.out.size) (by omega) (by omega)).mono ?_
      rintro e w3 ⟨vk, rfl, e1, e2, hs⟩
      have e3 := e2 (by omega)
      obtain ⟨k, rfl⟩ := Int.eq_ofNat_of_zero_le e1
      have hk : k ≤ 9 := by omega
      have S3 := Lib.hid (since_step S2.out hs)
      clear hs S2  e1 e2 e3
      go_wp2_with fail
      refine (numbers_any A n c xs k w3 ((HA.out.since S3.out (Nat.le_refl _)).more S3.out.size) (by omega) (by omega)).mono ?_
      rintro e w4 ⟨g, cg, zs, rfl, hcg, hg, hs⟩
      have XF := Lib.hid hg.read
      have S4 := Lib.hid (since_step S3.out hs)
      clear hs S3  hg
      go_wp2_with fail
      refine (numbers_any B m d ys k w4 ((HB.out.since S4.out (Nat.le_refl _)).more S4.out.size) (by omega) (by omega)).mono ?_
      rintro e w5 ⟨g2, cg2, us, rfl, hcg2, hg, hs⟩
      have UF := Lib.hid hg.read
      have S5 := Lib.hid (since_step S4.out hs)
      have XF' := Lib.hid ((XF.out.since hs).more hs.size)
      clear hs S4 XF hg
      have XF := XF'; clear XF'
      have Q1 := Lib.hid (show Calls Try.prog 13 #[.slice (some ⟨g, 0, none⟩) k cg, .slice (some ⟨g2, 0, none⟩) k cg2] w5 (PLx k (fun j => ad (ab .f32 (wd zs j)) (ab .f32 (wd us j))) w5) from (implMixSamples_ok _ k cg zs _ cg2 us w5 XF.out hcg (by omega) UF.out hcg2).mono fun e w' h => h.lookx)
      go_wp2_with fail
      refine (Q1.out).mono ?_
      rintro e w6 ⟨A1, c1, x1, rfl, r1, r2, hs⟩
      have V1 := Lib.hid r2
      have F1 := Lib.hid r1
      have S6 := Lib.hid (since_step S5.out hs)
      have XF' := Lib.hid ((XF.out.since hs).more hs.size)
      have UF' := Lib.hid ((UF.out.since hs).more hs.size)
      clear hs S5 XF UF r1 r2 Q1
      have XF := XF'; clear XF'
      have UF := UF'; clear UF'
      have Q2 := Lib.hid (show Calls Try.prog 14 #[.slice (some ⟨g, 0, none⟩) k cg, .float .f32 q] w6 (PLx k (fun j => mu (ab .f32 (wd zs j)) Q) w6) from (implScaleSamples_ok _ k cg zs q Q w6 XF.out hcg (by omega) hq).mono fun e w' h => h.lookx)
      go_wp2_with fail
      refine (Q2.out).mono ?_
      rintro e w7 ⟨A2, c2, x2, rfl, r1, r2, hs⟩
      have V2 := Lib.hid r2
      have F2 := Lib.hid r1
      have S7 := Lib.hid (since_step S6.out hs)
      have XF' := Lib.hid ((XF.out.since hs).more hs.size)
      have UF' := Lib.hid ((UF.out.since hs).more hs.size)
      have F1' := Lib.hid ((F1.out.since hs).more hs.size)
      clear hs S6 XF UF F1 r1 r2 Q2
      have XF := XF'; clear XF'
      have UF := UF'; clear UF'
      have F1 := F1'; clear F1'
      obtain ⟨p, hp⟩ : ∃ p, Hid (peakN zs k = p) := ⟨_, Lib.hid rfl⟩
      have hp1 : p ≤ 2139095040 := hp.out ▸ (peak_spec zs XF.out.2.1 k).1
      have PK := Lib.hid (show Calls Try.prog 15 #[.slice (some ⟨g, 0, none⟩) k cg] w7 (fun e w' => e = .returned (.tuple #[.float .f32 p, .bool true]) ∧ w7.Since w7.heap.size w') from (implPeak_any _ k cg zs w7 _ XF.out (by omega)).mono (by
        rintro e w' ⟨r, z, rfl, hv, rfl⟩
        rw [if_pos (by omega), hp.out, pos_num hp1] at hv
        rw [decide_eq_true (show k ≤ 256 by omega)]
        obtain rfl : r = p := (ab_some hv.2).symm
        exact ⟨rfl, since_drewN (World.Since.refl _ _) _⟩))
      go_wp2_with fail
      refine (PK.out).mono ?_
      rintro e w8 ⟨rfl, hs⟩
      have S8 := Lib.hid (since_step S7.out hs)
      have XF' := Lib.hid ((XF.out.since hs).more hs.size)
      have UF' := Lib.hid ((UF.out.since hs).more hs.size)
      have F1' := Lib.hid ((F1.out.since hs).more hs.size)
      have F2' := Lib.hid ((F2.out.since hs).more hs.size)
      clear hs S7 XF UF F1 F2 PK
      have XF := XF'; clear XF'
      have UF := UF'; clear UF'
      have F1 := F1'; clear F1'
      have F2 := F2'; clear F2'
      have og := ge_zero hp1
      go_wp2_with fail
      try clear og
      have GW : Hid (∀ j, (FloatKind.f32.format.order (wd zs j) p == some .gt) = false ∨ k ≤ j) := Lib.hid fun j => by
        by_cases hj : j < k
        · exact .inl (gt_word (XF.out.2.1.at_ j) hp1 fun h => hp.out ▸ (peak_spec zs XF.out.2.1 k).2.1 j hj h)
        · exact .inr (by omega)
      have GN : Hid (∀ j, (FloatKind.f32.format.order (Op.negFloat .f32 (wd zs j)) p == some .gt) = false ∨ k ≤ j) := Lib.hid fun j => by
        by_cases hj : j < k
        · refine .inl (gt_word (neg_lt .f32 (XF.out.2.1.at_ j)) hp1 fun h => ?_)
          rw [neg_size _ (XF.out.2.1.at_ j)] at h ⊢
          exact hp.out ▸ (peak_spec zs XF.out.2.1 k).2.1 j hj h
        · exact .inr (by omega)
      have FA : Hid (foundB zs p k = true) := Lib.hid (hp.out ▸ found_all zs XF.out.2.1 k)
      clear hp
      go_loopw [18, 19] (fun f i wr => ∃ j : Nat, j ≤ k ∧ f = .bool (foundB zs p j) ∧ i = .int .i64 (j : Int) ∧ w8.Since w8.heap.size wr) (fun _ i _ => k - (intOf i).toNat)
      case atStart => exact ⟨0, Nat.zero_le _, by first | rfl | (simp [foundB]; done), rfl, World.Since.refl _ _⟩
      case round =>
        obtain ⟨j, hj, rfl, rfl, ho⟩ := hrel
        obtain ⟨wo, hwo⟩ : ∃ v, v = wr := ⟨_, rfl⟩
        subst hwo
        have HO := Lib.hid ho; clear ho
        have zo := HO.out.size
        by_cases hlt : j < k
        · obtain ⟨ga, oa, rfl, hga, hca⟩ := F1.out.2.2 (by omega)
          obtain ⟨gb, ob, rfl, hgb, hcb⟩ := F2.out.2.2 (by omega)
          obtain ⟨cx, bx⟩ := Fs.cell0 XF.out hlt
          obtain ⟨cu, bu⟩ := Fs.cell0 UF.out hlt
          have kx : wo.cell? ⟨g, j, none⟩ = some (.float .f32 (wd zs j)) := (HO.out.cell (a := ⟨g, j, none⟩) bx).trans cx
          have ku : wo.cell? ⟨g2, j, none⟩ = some (.float .f32 (wd us j)) := (HO.out.cell (a := ⟨g2, j, none⟩) bu).trans cu
          have ka : wo.cell? ⟨ga, oa + j, none⟩ = some (.float .f32 (wd x1 j)) := (HO.out.cell (a := ⟨ga, oa + j, none⟩) hga).trans (hca j hlt)
          have kb : wo.cell? ⟨gb, ob + j, none⟩ = some (.float .f32 (wd x2 j)) := (HO.out.cell (a := ⟨gb, ob + j, none⟩) hgb).trans (hcb j hlt)
          have g1w : ga < wo.heap.size := Nat.lt_of_lt_of_le hga zo
          have g2w : gb < wo.heap.size := Nat.lt_of_lt_of_le hgb zo
          have gxw : g < wo.heap.size := Nat.lt_of_lt_of_le bx zo
          have guw : g2 < wo.heap.size := Nat.lt_of_lt_of_le bu zo
          have hX : Hid (Fv .f32 (wd zs j) (ab .f32 (wd zs j))) := Lib.hid ⟨XF.out.2.1.at_ j, rfl⟩
          have hU : Hid (Fv .f32 (wd us j) (ab .f32 (wd us j))) := Lib.hid ⟨UF.out.2.1.at_ j, rfl⟩
          have b1 := F1.out.2.1.at_ j
          have b2 := F2.out.2.1.at_ j
          have C1 := Lib.hid (show ∀ (u : Value) (v : World), (∃ q : Nat, u = .float .f32 q ∧ Hid (Fv .f32 q (opO .add .f32 (ab .f32 (wd zs j)) (ab .f32 (wd us j))))) → Calls Try.prog 10 #[.float .f32 (wd x1 j), u] v fun e2 w2 => e2 = .returned (.bool true) ∧ v.Since v.heap.size w2 from by
            rintro u v ⟨r, rfl, hr⟩
            refine (specSame_any (wd x1 j) r v b1 hr.out.1).mono ?_
            rintro e2 w2 ⟨rfl, rfl⟩
            refine ⟨?_, World.Since.refl _ _⟩
            rw [hr.out.2, V1.out j hlt, decide_eq_true rfl])
          have C2 := Lib.hid (show ∀ (u : Value) (v : World), (∃ r : Nat, u = .float .f32 r ∧ Hid (Fv .f32 r (opO .mul .f32 (ab .f32 (wd zs j)) Q))) → Calls Try.prog 10 #[.float .f32 (wd x2 j), u] v fun e2 w2 => e2 = .returned (.bool true) ∧ v.Since v.heap.size w2 from by
            rintro u v ⟨r, rfl, hr⟩
            refine (specSame_any (wd x2 j) r v b2 hr.out.1).mono ?_
            rintro e2 w2 ⟨rfl, rfl⟩
            refine ⟨?_, World.Since.refl _ _⟩
            rw [hr.out.2, V2.out j hlt, decide_eq_true rfl])
          have o1 : (FloatKind.f32.format.order (wd zs j) p == some .gt) = false := (GW.out j).resolve_right (by omega)
          have o2 : (FloatKind.f32.format.order (Op.negFloat .f32 (wd zs j)) p == some .gt) = false := (GN.out j).resolve_right (by omega)
          clear hca hcb cx cu GW GN
          go_wp2_with fail
          refine Lk.wp_k (by kernel_rfl) (by kernel_rfl) (by kernel_rfl) ?_
          repeat (first
            | (refine Lk.sYes rfl rfl ?_; dsimp only)
            | (refine Lk.sLoadF rfl rfl rfl rfl 24 _ rfl ⟨ga, oa + j, none⟩ rfl (.float .f32 (wd x1 j)) (fun v hv => Lk.loadF ((hv.cell (a := ⟨ga, oa + j, none⟩) g1w).trans ka)) ?_; (try simp only [Act.eval, Act.put, Lk.Va.val, Lk.Va.kd, List.setIfInBounds_toArray, List.set_cons_succ, List.set_cons_zero, Array.getD_eq_getD_getElem?, List.getElem?_toArray, List.getElem?_cons_succ, List.getElem?_cons_zero, Option.getD_some]))
            | (refine Lk.sLoadF rfl rfl rfl rfl 24 _ rfl ⟨g, j, none⟩ rfl (.float .f32 (wd zs j)) (fun v hv => Lk.loadF ((hv.cell (a := ⟨g, j, none⟩) gxw).trans kx)) ?_; (try simp only [Act.eval, Act.put, Lk.Va.val, Lk.Va.kd, List.setIfInBounds_toArray, List.set_cons_succ, List.set_cons_zero, Array.getD_eq_getD_getElem?, List.getElem?_toArray, List.getElem?_cons_succ, List.getElem?_cons_zero, Option.getD_some]))
            | (refine Lk.sLoadF rfl rfl rfl rfl 24 _ rfl ⟨g2, j, none⟩ rfl (.float .f32 (wd us j)) (fun v hv => Lk.loadF ((hv.cell (a := ⟨g2, j, none⟩) guw).trans ku)) ?_; (try simp only [Act.eval, Act.put, Lk.Va.val, Lk.Va.kd, List.setIfInBounds_toArray, List.set_cons_succ, List.set_cons_zero, Array.getD_eq_getD_getElem?, List.getElem?_toArray, List.getElem?_cons_succ, List.getElem?_cons_zero, Option.getD_some]))
            | (refine Lk.sLoadF rfl rfl rfl rfl 24 _ rfl ⟨gb, ob + j, none⟩ rfl (.float .f32 (wd x2 j)) (fun v hv => Lk.loadF ((hv.cell (a := ⟨gb, ob + j, none⟩) g2w).trans kb)) ?_; (try simp only [Act.eval, Act.put, Lk.Va.val, Lk.Va.kd, List.setIfInBounds_toArray, List.set_cons_succ, List.set_cons_zero, Array.getD_eq_getD_getElem?, List.getElem?_toArray, List.getElem?_cons_succ, List.getElem?_cons_zero, Option.getD_some]))
            | (refine Lk.sFop rfl rfl (of_decide_eq_true rfl) rfl .add _ _ _ _ rfl rfl (wd zs j) (wd us j) (ab .f32 (wd zs j)) (ab .f32 (wd us j)) rfl rfl hX hU ?_; (try simp only [Act.eval, Act.put, Lk.Va.val, Lk.Va.kd, List.setIfInBounds_toArray, List.set_cons_succ, List.set_cons_zero, Array.getD_eq_getD_getElem?, List.getElem?_toArray, List.getElem?_cons_succ, List.getElem?_cons_zero, Option.getD_some]))
            | (refine Lk.sFop rfl rfl (of_decide_eq_true rfl) rfl .mul _ _ _ _ rfl rfl (wd zs j) q (ab .f32 (wd zs j)) Q rfl rfl hX hq ?_; (try simp only [Act.eval, Act.put, Lk.Va.val, Lk.Va.kd, List.setIfInBounds_toArray, List.set_cons_succ, List.set_cons_zero, Array.getD_eq_getD_getElem?, List.getElem?_toArray, List.getElem?_cons_succ, List.getElem?_cons_zero, Option.getD_some]))
            | (refine Lk.sCall1V rfl rfl rfl 10 [.tmp 138, .tmp 147] _ rfl (callsEnter 10 Try.f10 _ (by kernel_rfl) (by kernel_rfl) rfl) 147 (by simp) (Lk.yF (opO .add .f32 (ab .f32 (wd zs j)) (ab .f32 (wd us j)))) rfl (fun u => [.float .f32 (wd x1 j), u]) (fun b => rfl) (.bool true) (fun u S v hS hN hp => C1.out u v hp) ?_; (try simp only [Act.eval, Act.put, Lk.Va.val, Lk.Va.kd, List.setIfInBounds_toArray, List.set_cons_succ, List.set_cons_zero, Array.getD_eq_getD_getElem?, List.getElem?_toArray, List.getElem?_cons_succ, List.getElem?_cons_zero, Option.getD_some]))
            | (refine Lk.sCall1V rfl rfl rfl 10 [.tmp 154, .tmp 160] _ rfl (callsEnter 10 Try.f10 _ (by kernel_rfl) (by kernel_rfl) rfl) 160 (by simp) (Lk.yF (opO .mul .f32 (ab .f32 (wd zs j)) Q)) rfl (fun u => [.float .f32 (wd x2 j), u]) (fun b => rfl) (.bool true) (fun u S v hS hN hp => C2.out u v hp) ?_; (try simp only [Act.eval, Act.put, Lk.Va.val, Lk.Va.kd, List.setIfInBounds_toArray, List.set_cons_succ, List.set_cons_zero, Array.getD_eq_getD_getElem?, List.getElem?_toArray, List.getElem?_cons_succ, List.getElem?_cons_zero, Option.getD_some]))
            | (refine Lk.sMove rfl rfl rfl rfl _ (.inl rfl) ?_; simp only [Act.eval, Act.put, Lk.Va.val, Lk.Va.kd, List.setIfInBounds_toArray, List.set_cons_succ, List.set_cons_zero, Array.getD_eq_getD_getElem?, List.getElem?_toArray, List.getElem?_cons_succ, List.getElem?_cons_zero, Option.getD_some])
            | (refine Lk.sMove rfl rfl rfl rfl _ (.inr rfl) ?_; simp only [Act.eval, Act.put, Lk.Va.val, Lk.Va.kd, List.setIfInBounds_toArray, List.set_cons_succ, List.set_cons_zero, Array.getD_eq_getD_getElem?, List.getElem?_toArray, List.getElem?_cons_succ, List.getElem?_cons_zero, Option.getD_some])
            | (refine Lk.sCopy rfl rfl (of_decide_eq_true rfl) _ (.inl rfl) _ rfl rfl ?_; simp only [Act.eval, Act.put, Lk.Va.val, Lk.Va.kd, List.setIfInBounds_toArray, List.set_cons_succ, List.set_cons_zero, Array.getD_eq_getD_getElem?, List.getElem?_toArray, List.getElem?_cons_succ, List.getElem?_cons_zero, Option.getD_some])
            | (refine Lk.sCopy rfl rfl (of_decide_eq_true rfl) _ (.inr rfl) _ rfl rfl ?_; simp only [Act.eval, Act.put, Lk.Va.val, Lk.Va.kd, List.setIfInBounds_toArray, List.set_cons_succ, List.set_cons_zero, Array.getD_eq_getD_getElem?, List.getElem?_toArray, List.getElem?_cons_succ, List.getElem?_cons_zero, Option.getD_some])
            | (refine Lk.sQuiet rfl rfl rfl rfl rfl (fun K hK => ?_); go_big_quiet_op; first | (with_reducible refine ⟨_, fun _ _ => rfl, hK _ ?_⟩; clear hK K) | (refine hK _ ?_; clear hK K)))
          refine Lk.wpK_nil ?_
          refine Lk.After.slot 147 _ rfl ?_; intro u147 _; simp only [Act.eval, Act.put, Lk.Va.val, Lk.Va.kd, List.setIfInBounds_toArray, List.set_cons_succ, List.set_cons_zero, Array.getD_eq_getD_getElem?, List.getElem?_toArray, List.getElem?_cons_succ, List.getElem?_cons_zero, Option.getD_some]
          refine Lk.After.slot 160 _ rfl ?_; intro u160 _; simp only [Act.eval, Act.put, Lk.Va.val, Lk.Va.kd, List.setIfInBounds_toArray, List.set_cons_succ, List.set_cons_zero, Array.getD_eq_getD_getElem?, List.getElem?_toArray, List.getElem?_cons_succ, List.getElem?_cons_zero, Option.getD_some]
          refine Lk.After.end_ [147, 160] (by repeat (first | exact Lk.nbut.start | refine Lk.nbut.upd (by simp) ?_)) rfl ?_
          intro fpK wK hwK
          intro hK160 hB160 hX160
          intro hK147 hB147 hX147
          have kz : wK.cell? ⟨g, j, none⟩ = some (.float .f32 (wd zs j)) := (hwK.cell (a := ⟨g, j, none⟩) gxw).trans kx
          have ST := Lib.hid (HO.out.trans (since_mono hwK HO.out.size))
          clear hK160 hB160 hX160 hK147 hB147 hX147 hwK HO fpK kx ku ka kb C1 C2 hX hU o1 o2 F1 F2 UF
          cases hfj : foundB zs p j
          case false =>
            go_wp2_with fail
            all_goals
              rename_i hh
              refine ⟨⟨j + 1, by omega, congrArg Value.bool (?_ : _ = (foundB zs p j || FloatKind.f32.format.order (wd zs j) p == some .eq || FloatKind.f32.format.order (Op.negFloat .f32 (wd zs j)) p == some .eq)), by go_num, ST.out⟩, by simp [intOf]; omega⟩
              rw [hfj]; simp [hh]
          case true =>
            go_wp2_with fail
            refine ⟨⟨j + 1, by omega, congrArg Value.bool (?_ : _ = (foundB zs p j || FloatKind.f32.format.order (wd zs j) p == some .eq || FloatKind.f32.format.order (Op.negFloat .f32 (wd zs j)) p == some .eq)), by go_num, ST.out⟩, by simp [intOf]; omega⟩
            rw [hfj]; rfl
        · obtain rfl : j = k := by omega
          have FA' := FA.out
          go_wp2
          go_ret
          exact ⟨ret_bool FA', S8.out.trans (since_mono HO.out S8.out.size)⟩
end Go.Proofs.Ytjfiljklohpnoaa

