/- Joined: K1 Eh En Eo Hc Hd He Hf Hg Jk Hh P1 K2 Lw Lx Ep Ly Ja Ha Hb Ei El Fh L1 Jo Jb Jh Jp Jq Jr Js Ua Fs -/
import Derived.Test.YtfgebggfoboalaaFt
import Derived.Test.YtfgebggfoboalaaEg
import Derived.Test.YtfgebggfoboalaaDi
import Derived.Test.YtfgebggfoboalaaEc
import Derived.Test.YtfgebggfoboalaaIl
import Derived.Test.YtfgebggfoboalaaDl
import Derived.BigQuiet
import Derived.Test.YtfgebggfoboalaaSc
import Derived.Test.YtfgebggfoboalaaFr
import Derived.Test.YtfgebggfoboalaaLq
import Derived.Deep.MidRow
import Derived.Test.YtfgebggfoboalaaLv
import Derived.Test.YtfgebggfoboalaaEf
import Derived.Test.YtfgebggfoboalaaSr
import Derived.Test.YtfgebggfoboalaaFw
import Derived.Test.YtfgebggfoboalaaFi
import Derived.Test.YtfgebggfoboalaaEa
/- Sizes of sums, differences and products between words: rounding is monotone. -/
set_option linter.unusedVariables false
set_option linter.unusedSimpArgs false
namespace Go.Proofs.Ytfgebggfoboalaa
namespace Fl
open Ieee
theorem nearest_le (k : FloatKind) (neg : Bool) {mag c : Nat} {place b : Int} (hc : c < k.format.infRung) (hb : b ≤ place) (hbl : b ≤ k.format.leastPlace)
    (h : mag * 2 ^ (place - b).toNat ≤ zv k c * 2 ^ (k.format.leastPlace - b).toNat) : rung k (k.format.nearest neg mag place) ≤ c := by
  obtain ⟨m, e, hz, hform, hlt⟩ := rung_form k c
  have hN := nearest_rung k neg hc hz hform
  have he : (k.format.leastPlace + (e : Int) - b).toNat = e + (k.format.leastPlace - b).toNat := by omega
  have h2 : mag * 2 ^ (place - b).toNat ≤ m * 2 ^ (k.format.leastPlace + (e : Int) - b).toNat := by
    rw [he, Nat.pow_add, ← Nat.mul_assoc, ← hz]; exact h
  have h3 := nearest_mono k neg neg (mag := mag) (mag' := m) (place := place) (place' := k.format.leastPlace + (e : Int)) (b := b) hb (by omega) hbl h2
  rw [hN] at h3
  exact h3
theorem nearest_ge (k : FloatKind) (neg : Bool) {mag c : Nat} {place b : Int} (hc : c < k.format.infRung) (hb : b ≤ place) (hbl : b ≤ k.format.leastPlace)
    (h : zv k c * 2 ^ (k.format.leastPlace - b).toNat ≤ mag * 2 ^ (place - b).toNat) : c ≤ rung k (k.format.nearest neg mag place) := by
  obtain ⟨m, e, hz, hform, hlt⟩ := rung_form k c
  have hN := nearest_rung k neg hc hz hform
  have he : (k.format.leastPlace + (e : Int) - b).toNat = e + (k.format.leastPlace - b).toNat := by omega
  have h2 : m * 2 ^ (k.format.leastPlace + (e : Int) - b).toNat ≤ mag * 2 ^ (place - b).toNat := by
    rw [he, Nat.pow_add, ← Nat.mul_assoc, ← hz]; exact h
  have h3 := nearest_mono k neg neg (mag := m) (mag' := mag) (place := k.format.leastPlace + (e : Int)) (place' := place) (b := b) (by omega) hb hbl h2
  rw [hN] at h3
  exact h3
/-- what is known of a rounded value -/
structure Rnd (k : FloatKind) (V : Int) (z : Nat) : Prop where
  le : ∀ c, c < k.format.infRung → V.natAbs ≤ zv k c → rung k z ≤ c
  ge : ∀ c, c < k.format.infRung → zv k c ≤ V.natAbs → c ≤ rung k z
  sgn : V ≠ 0 → sgn k z = decide (V < 0)
theorem rnd_of (k : FloatKind) {T V : Int} {c : Nat} {s : Bool} (hT : T * ((2 ^ c : Nat) : Int) = V) :
    Rnd k V (k.format.nearest (if T = 0 then s else decide (T < 0)) T.natAbs (k.format.leastPlace + (c : Int))) ∧ (V = 0 → Fl.sgn k (k.format.nearest (if T = 0 then s else decide (T < 0)) T.natAbs (k.format.leastPlace + (c : Int))) = s) := by
  have hpos : (0 : Int) < ((2 ^ c : Nat) : Int) := Int.natCast_pos.2 (Nat.two_pow_pos c)
  have hab : T.natAbs * 2 ^ c = V.natAbs := by rw [← hT, Int.natAbs_mul, Int.natAbs_natCast]
  have e1 : (k.format.leastPlace + (c : Int) - k.format.leastPlace).toNat = c := by omega
  have e2 : (k.format.leastPlace - k.format.leastPlace).toNat = 0 := by omega
  refine ⟨⟨fun d hd h => ?_, fun d hd h => ?_, fun h => ?_⟩, fun h => ?_⟩
  · refine nearest_le k _ (b := k.format.leastPlace) hd (by omega) (Int.le_refl _) ?_
    rw [e1, e2, Nat.pow_zero, Nat.mul_one, hab]; exact h
  · refine nearest_ge k _ (b := k.format.leastPlace) hd (by omega) (Int.le_refl _) ?_
    rw [e1, e2, Nat.pow_zero, Nat.mul_one, hab]; exact h
  · rw [sgn_nearest]
    have hT0 : T ≠ 0 := by intro e; rw [e, Int.zero_mul] at hT; exact h hT.symm
    rw [if_neg hT0]
    have : (T < 0) ↔ (V < 0) := by
      rw [← hT]
      constructor
      · intro h1; exact Int.mul_neg_of_neg_of_pos h1 hpos
      · intro h1
        by_cases h2 : T < 0
        · exact h2
        · exact absurd (Int.mul_nonneg (Int.not_lt.1 h2) (Int.le_of_lt hpos)) (by omega)
    exact decide_eq_decide.2 this
  · rw [sgn_nearest]
    have hT0 : T = 0 := by
      rw [h] at hT
      rcases Int.mul_eq_zero.1 hT with h1 | h1
      · exact h1
      · omega
    rw [if_pos hT0]
theorem add_val (k : FloatKind) {x y : Nat} (hx : Fin k x) (hy : Fin k y) :
    ∃ z, floatBits .add k x y = some z ∧ Rnd k (sv k x + sv k y) z ∧ (sv k x + sv k y = 0 → sgn k z = (sgn k x && sgn k y)) := by
  obtain ⟨m, e, hm, hz⟩ := read_fin k hx
  obtain ⟨n, f, hn, hz2⟩ := read_fin k hy
  simp only [floatBits, Format.add, hm, hn, Datum.sum, Option.map_some]
  refine ⟨_, rfl, ?_⟩
  have e2 : min (k.format.leastPlace + (e : Int)) (k.format.leastPlace + (f : Int)) = k.format.leastPlace + ((min e f : Nat) : Int) := by omega
  rw [e2]
  have e3 : (k.format.leastPlace + (e : Int) - (k.format.leastPlace + ((min e f : Nat) : Int))).toNat = e - min e f := by omega
  have e4 : (k.format.leastPlace + (f : Int) - (k.format.leastPlace + ((min e f : Nat) : Int))).toNat = f - min e f := by omega
  rw [e3, e4]
  have hS := sum_scaled (sgn k x) (sgn k y) m n e f (min e f) (Nat.min_le_left ..) (Nat.min_le_right ..)
  rw [← hz, ← hz2] at hS
  change _ = sv k x + sv k y at hS
  exact rnd_of k hS
theorem sub_val (k : FloatKind) {x y : Nat} (hx : Fin k x) (hy : Fin k y) :
    ∃ z, floatBits .sub k x y = some z ∧ Rnd k (sv k x - sv k y) z ∧ (sv k x - sv k y = 0 → sgn k z = (sgn k x && !(sgn k y))) := by
  obtain ⟨m, e, hm, hz⟩ := read_fin k hx
  obtain ⟨n, f, hn, hz2⟩ := read_fin k hy
  simp only [floatBits, Format.sub, hm, hn, Datum.opposite, Datum.sum, Option.map_some]
  refine ⟨_, rfl, ?_⟩
  have e2 : min (k.format.leastPlace + (e : Int)) (k.format.leastPlace + (f : Int)) = k.format.leastPlace + ((min e f : Nat) : Int) := by omega
  rw [e2]
  have e3 : (k.format.leastPlace + (e : Int) - (k.format.leastPlace + ((min e f : Nat) : Int))).toNat = e - min e f := by omega
  have e4 : (k.format.leastPlace + (f : Int) - (k.format.leastPlace + ((min e f : Nat) : Int))).toNat = f - min e f := by omega
  rw [e3, e4]
  have hS := sum_scaled (sgn k x) (!(sgn k y)) m n e f (min e f) (Nat.min_le_left ..) (Nat.min_le_right ..)
  rw [← hz, ← hz2] at hS
  have hopp : sg (!(sgn k y)) (zv k (rung k y)) = - sv k y := by unfold sv; cases sgn k y <;> simp [sg]
  have hS : _ = sv k x - sv k y := hS.trans (by rw [hopp]; rfl)
  exact rnd_of k hS
theorem mul_val (k : FloatKind) {x y : Nat} (hx : Fin k x) (hy : Fin k y) (P : Nat) (hP : (P : Int) = -k.format.leastPlace) :
    ∃ z, floatBits .mul k x y = some z ∧ sgn k z = (sgn k x ^^ sgn k y) ∧
      (∀ c, c < k.format.infRung → zv k (rung k x) * zv k (rung k y) ≤ zv k c * 2 ^ P → rung k z ≤ c) ∧
      (∀ c, c < k.format.infRung → zv k c * 2 ^ P ≤ zv k (rung k x) * zv k (rung k y) → c ≤ rung k z) := by
  obtain ⟨m, e, hm, hz⟩ := read_fin k hx
  obtain ⟨n, f, hn, hz2⟩ := read_fin k hy
  simp only [floatBits, Format.mul, hm, hn, Datum.product, Option.map_some]
  refine ⟨_, rfl, sgn_nearest k _ _ _, fun c hc h => ?_, fun c hc h => ?_⟩
  all_goals
    have hprod : (m * n) * 2 ^ (e + f) = zv k (rung k x) * zv k (rung k y) := by rw [hz, hz2, Nat.pow_add]; ac_rfl
    rw [← hprod] at h
    have e1 : (k.format.leastPlace + (e : Int) + (k.format.leastPlace + (f : Int)) - (k.format.leastPlace + k.format.leastPlace)).toNat = e + f := by omega
    have e2 : (k.format.leastPlace - (k.format.leastPlace + k.format.leastPlace)).toNat = P := by omega
  · exact nearest_le k _ (b := k.format.leastPlace + k.format.leastPlace) hc (by omega) (by omega) (by rw [e1, e2]; exact h)
  · exact nearest_ge k _ (b := k.format.leastPlace + k.format.leastPlace) hc (by omega) (by omega) (by rw [e1, e2]; exact h)
end Fl
end Go.Proofs.Ytfgebggfoboalaa

/- Dynamics: the gate. -/
set_option linter.unusedVariables false
set_option linter.unusedSimpArgs false
namespace Go.Proofs.Ytfgebggfoboalaa
open Fl Go.RowKit
/-- what the closure of a gate finds in its boxes -/
structure GateI (b t : Nat) (hold H : Int) (W : World) : Prop where
  lt : b + 1 + 1 < W.heap.size
  t : W.cell? ⟨b, 0, none⟩ = some (.float .f32 t)
  ho : W.cell? ⟨b + 1, 0, none⟩ = some (.int .i64 hold)
  he : W.heap[b + 1 + 1]? = some (.cells #[.int .i64 H] 2 (0, 0))
theorem GateI.of {b t : Nat} {hold H : Int} {W W' : World} (h : GateI b t hold H W) (hs : W.heap.size ≤ W'.heap.size) (e : ∀ i, i ≤ b + 1 + 1 → W'.heap[i]? = W.heap[i]?) : GateI b t hold H W' :=
  ⟨Nat.lt_of_lt_of_le h.lt hs, (cell_of_block (e _ (by omega)) _).trans h.t, (cell_of_block (e _ (by omega)) _).trans h.ho, (e _ (by omega)).trans h.he⟩
theorem GateI.set {b t : Nat} {hold H H' : Int} {W : World} (h : GateI b t hold H W) : GateI b t hold H' (W.setCell ⟨b + 1 + 1, 0, none⟩ (.int .i64 H')) :=
  ⟨by rw [Go.Deep.nblk_setCell]; exact h.lt, (cell_of_block (Go.Deep.blk_setCell_other _ _ _ _ (show b ≠ b + 1 + 1 by omega)) _).trans h.t, (cell_of_block (Go.Deep.blk_setCell_other _ _ _ _ (show b + 1 ≠ b + 1 + 1 by omega)) _).trans h.ho, by
    simp [World.setCell, Array.getElem?_modify, h.he]⟩
theorem implSize2 (b : Nat) (w : World) (hb : b < 4294967296) : Calls Try.prog 45 #[.float .f32 b] w fun e w' => e = .returned (.float .f32 (sizeN b)) ∧ w' = w := (implSize_any b w hb).mono fun _ _ ⟨h1, h2⟩ => ⟨h1, h2.symm⟩
end Go.Proofs.Ytfgebggfoboalaa

/- Dynamics: a follower's step, both sides. -/
set_option linter.unusedVariables false
set_option linter.unusedSimpArgs false
namespace Go.Proofs.Ytfgebggfoboalaa
open Fl Go.RowKit
/-- a follower's three words lie in block g from place o on -/
structure FolAt (w : World) (g : Nat) (a r l : Nat) : Prop where
  lt : g < w.heap.size
  a : w.cell? ⟨g, 0, none⟩ = some (.float .f32 a)
  r : w.cell? ⟨g, 1, none⟩ = some (.float .f32 r)
  l : w.cell? ⟨g, 2, none⟩ = some (.float .f32 l)
theorem FolAt.of {w w' : World} {g a r l : Nat} (h : FolAt w g a r l) (hs : w.heap.size ≤ w'.heap.size) (e : w'.heap[g]? = w.heap[g]?) : FolAt w' g a r l :=
  ⟨Nat.lt_of_lt_of_le h.lt hs, (cell_of_block e _).trans h.a, (cell_of_block e _).trans h.r, (cell_of_block e _).trans h.l⟩
theorem flushH {x : Nat} {F : O} (h : Hid (Fv .f32 x F)) : Hid (Fv .f32 (flushN x) (F.map flushN)) := Lib.hid (flushN_fv h.out)
/-- a level behind a sample -/
def folO (A R L X : O) : O := (ad L (mu (if gtO (sizeO X) L then A else R) (su (sizeO X) L))).map flushN
end Go.Proofs.Ytfgebggfoboalaa

/- Dynamics: levels, the model's. -/
set_option linter.unusedVariables false
set_option linter.unusedSimpArgs false
namespace Go.Proofs.Ytfgebggfoboalaa
namespace Lo
open Fl Ieee
section
variable {P : Program} {ops : Array Oper} {rest : List Oper} {o : Oper} {a : Act} {Q : Act → Prop} {ds : List Nat}
theorem keeps (ts : List Nat) (vs : List Value) (hv : ts.map (fun t => a.tmps.getD t undef) = vs) (ht : ts.all (fun t => !ds.contains t) = true) (b : Act) (h : AR (fun i => ds.contains i) a b) : (ts.map Operand.tmp).map b.eval = vs := by
  subst hv
  rw [List.map_map]
  refine List.map_congr_left fun t hm => ?_
  have h1 := List.all_eq_true.1 ht t hm
  exact (h.2.2 t).2 (by simpa using h1)
/-- a call of a Go function, of nothing that the statement computes, which gives a float -/
theorem wpL_callF {w : World} (hg : o.guard = none) (f : FuncId) (ys : List Operand) (vs : List Value) (tys : Array TypeId) (hop : o.op = Op.call ⟨.value (.func f), ys.toArray, tys⟩) (hd : ∀ d, o.dst = some d → ds.contains d = true)
    (henter : ∀ args w2, (callFunc f args).run P w2 = .ok (.enter f args) w2)
    (k2 : FloatKind) (F : Option Nat) (hys : ∀ b, AR (fun i => ds.contains i) a b → ys.map b.eval = vs)
    (hc : ∀ m, Calls P f vs.toArray (w.drewN m) fun e w2 => ∃ r n, e = .returned (.float k2 r) ∧ Fv k2 r F ∧ w2 = w.drewN n)
    (hex : ∃ r, Fv k2 r F)
    (hK : ∀ r, RowKit.Hid (Fv k2 r F) → wpL P ops (fun v => ∃ n, v = w.drewN n) (fun i => ds.contains i) Q rest (a.put o.dst (.float k2 r))) :
    wpL P ops (fun v => ∃ n, v = w.drewN n) (fun i => ds.contains i) Q (o :: rest) a := by
  obtain ⟨r, hr⟩ := hex
  refine wpL_of_loose hg (fun b hab w2 hw => ?_) (hK r hr)
  have e : (execOp b.eval o).run P w2 = .ok (.enter f vs.toArray) w2 := by
    have h1 := hys b hab
    have ef : b.eval (.func f) = .func (.func f) #[] #[] := rfl
    simp [execOp, hop, resolve, ef, h1, invoke, Deferred.ofValue, henter, Result.andThen]
  rw [e]
  obtain ⟨m, rfl⟩ := hw
  refine ⟨⟨m, rfl⟩, (hc m).mono fun e2 w3 ⟨r2, n, he, hr2, hw3⟩ => ⟨_, he, ⟨.inr ⟨k2, r, r2, rfl, rfl, hr.1, hr2.1, by rw [hr.2, hr2.2]⟩, fun d hd2 hf2 => by have := hd d hd2; simp_all⟩, n, hw3⟩⟩
end
end Lo
open Fl Go.RowKit
theorem FolAt.drewN {w : World} {g a r l : Nat} (h : FolAt w g a r l) (m : Nat) : FolAt (w.drewN m) g a r l := ⟨h.lt, h.a, h.r, h.l⟩
theorem _root_.Go.Proofs.Ytfgebggfoboalaa.Fl.Gs.onLow {T : TypeId} {w w' : World} {lo n g : Nat} {A : Option Addr} {xs : List Nat} (h : Gs T w lo A n xs) (o : On g w w') (hd : g < lo) : Gs T w' lo A n xs :=
  ⟨h.1, h.2.1, fun hn => by
    obtain ⟨b, cs, e, hb, hh, hc⟩ := h.2.2 hn
    exact ⟨b, cs, e, hb, (o.2 b (Array.getElem?_eq_some_iff.1 hh).1 (by omega)).trans hh, hc⟩⟩
theorem blk_keep {w : World} {b : Nat} (o : Obj) (h : b < w.heap.size) : (w.alloc o).heap[b]? = w.heap[b]? := ((World.Since.refl w.heap.size w).alloc (Nat.le_refl _) o).block b h
structure FolN where
  a : Nat
  r : Nat
  l : Nat
structure Fol where
  a : O
  r : O
  l : O
def FolN.val (d : FolN) : Value := .agg #[.float .f32 d.a, .float .f32 d.r, .float .f32 d.l]
structure FvFol (d : FolN) (D : Fol) : Prop where
  a : Hid (Fv .f32 d.a D.a)
  r : Hid (Fv .f32 d.r D.r)
  l : Hid (Fv .f32 d.l D.l)
def PLFB (n0 : Nat) (f0 : Nat → Option Nat) (S : Fol) (b : Bool) (w : World) (e : Ending) (w' : World) : Prop :=
  ∃ (p : Ls) (c : Nat) (s : FolN), e = .returned (.tuple #[.slice p.A p.n c, s.val, .bool b]) ∧ p.n = n0 ∧ Gs 26 w' w.heap.size p.A p.n p.xs ∧ Are p f0 ∧ FvFol s S ∧ w.Since w.heap.size w'
def levO (D : Fol) (X : Nat → O) : Nat → O
  | 0 => D.l
  | k + 1 => folO D.a D.r (levO D X k) (X k)
theorem folO_ex {A R L X : O} {a r l x : Nat} (ha : Hid (Fv .f32 a A)) (hr : Hid (Fv .f32 r R)) (hl : Hid (Fv .f32 l L)) (hx : Hid (Fv .f32 x X)) : ∃ q, Fv .f32 q (folO A R L X) := by
  unfold folO
  obtain ⟨d, hd⟩ := Lo.fv_ex (op := .sub) rfl .f32 _ _ _ _ (sizeN_fv hx).out hl.out
  cases gtO (sizeO X) L
  · obtain ⟨p, hp⟩ := Lo.fv_ex (op := .mul) rfl .f32 _ _ _ _ hr.out hd
    obtain ⟨s, hs⟩ := Lo.fv_ex (op := .add) rfl .f32 _ _ _ _ hl.out hp
    exact ⟨_, flushN_fv hs⟩
  · obtain ⟨p, hp⟩ := Lo.fv_ex (op := .mul) rfl .f32 _ _ _ _ ha.out hd
    obtain ⟨s, hs⟩ := Lo.fv_ex (op := .add) rfl .f32 _ _ _ _ hl.out hp
    exact ⟨_, flushN_fv hs⟩
end Go.Proofs.Ytfgebggfoboalaa

/- Draws: bytes that can be read, and the source of draws. -/
set_option linter.unusedVariables false
set_option linter.unusedSimpArgs false
namespace Go.Proofs.Ytfgebggfoboalaa
open Fl Go.RowKit
theorem and255u (z : Int) : 0 ≤ wrap64 (bits BinOp.and IntKind.u64 z 255) ∧ wrap64 (bits BinOp.and IntKind.u64 z 255) < 256 := by
  have h : bits BinOp.and IntKind.u64 z 255 = z % 256 := by
    have hb : (BitVec.ofInt 64 255).toNat = 255 := by decide
    have ha : (BitVec.ofInt 64 z).toNat = (z % 18446744073709551616).toNat := by rw [BitVec.toNat_ofInt]; rfl
    have hw : ∀ n : Nat, n < 256 → IntKind.u64.wrap (n : Int) = n := fun n h => by rw [IntKind.wrap_u64]; omega
    show IntKind.u64.wrap (((BitVec.ofInt 64 z &&& BitVec.ofInt 64 255).toNat : Nat) : Int) = _
    rw [BitVec.toNat_and, ha, hb]
    have e : ∀ n : Nat, n &&& 255 = n % 256 := fun n => Nat.and_two_pow_sub_one_eq_mod n 8
    rw [e, hw _ (Nat.mod_lt _ (by decide))]
    omega
  rw [h]
  unfold wrap64
  omega
/-- bytes that can be read -/
def Bs (w : World) (B : Nat) (A : Option Addr) (n : Nat) (xs : List Int) : Prop :=
  xs.length = n ∧ (∀ k, 0 ≤ wi xs k ∧ wi xs k < 256) ∧ (0 < n → ∃ g off, A = some ⟨g, off, none⟩ ∧ g < B ∧ ∀ k, k < n → w.cell? ⟨g, off + k, none⟩ = some (.int .u8 (wi xs k)))
theorem Bs.keep {w w' : World} {B : Nat} {A : Option Addr} {n : Nat} {xs : List Int} (h : Bs w B A n xs) (hk : ∀ g o, g < B → w'.cell? ⟨g, o, none⟩ = w.cell? ⟨g, o, none⟩) : Bs w' B A n xs :=
  ⟨h.1, h.2.1, fun hn => by
    obtain ⟨g, off, e, hg, hc⟩ := h.2.2 hn
    exact ⟨g, off, e, hg, fun k hk' => (hk g _ hg).trans (hc k hk')⟩⟩
theorem Bs.more {w : World} {B B' : Nat} {A : Option Addr} {n : Nat} {xs : List Int} (h : Bs w B A n xs) (hB : B ≤ B') : Bs w B' A n xs :=
  ⟨h.1, h.2.1, fun hn => by
    obtain ⟨g, off, e, hg, hc⟩ := h.2.2 hn
    exact ⟨g, off, e, by omega, hc⟩⟩
theorem Bs.since {w w' : World} {B B' : Nat} {A : Option Addr} {n : Nat} {xs : List Int} (h : Bs w B A n xs) (hs : w.Since B' w') (hB : B ≤ B') : Bs w' B A n xs :=
  h.keep fun g o hg => hs.cell (a := ⟨g, o, none⟩) (by show g < B'; omega)
theorem Bs.drewN {w : World} {B : Nat} {A : Option Addr} {n : Nat} {xs : List Int} (h : Bs w B A n xs) (m : Nat) : Bs (w.drewN m) B A n xs := h.keep fun _ _ _ => rfl
/-- a source's block -/
def SrcB (w : World) (b : Nat) (A : Option Addr) (n c : Nat) (i sd : Int) : Prop := w.heap[b]? = some (.cells #[.slice A n c, .int .i64 i, .int .u64 sd] 60 (0, 0))
theorem SrcB.lt {w : World} {b n c : Nat} {A : Option Addr} {i sd : Int} (h : SrcB w b A n c i sd) : b < w.heap.size := (Array.getElem?_eq_some_iff.1 h).1
theorem SrcB.c0 {w : World} {b n c : Nat} {A : Option Addr} {i sd : Int} (h : SrcB w b A n c i sd) : w.cell? ⟨b, 0, none⟩ = some (.slice A n c) := by unfold SrcB at h; simp [World.cell?, h]
theorem SrcB.c1 {w : World} {b n c : Nat} {A : Option Addr} {i sd : Int} (h : SrcB w b A n c i sd) : w.cell? ⟨b, 1, none⟩ = some (.int .i64 i) := by unfold SrcB at h; simp [World.cell?, h]
theorem SrcB.c2 {w : World} {b n c : Nat} {A : Option Addr} {i sd : Int} (h : SrcB w b A n c i sd) : w.cell? ⟨b, 2, none⟩ = some (.int .u64 sd) := by unfold SrcB at h; simp [World.cell?, h]
theorem SrcB.free {w : World} {b n c q : Nat} {A : Option Addr} {i sd : Int} (h : SrcB w b A n c i sd) : w.frozen? ⟨b, q, none⟩ = false := by unfold SrcB at h; simp [World.frozen?, h]
theorem SrcB.of {w w' : World} {b n c : Nat} {A : Option Addr} {i sd : Int} (h : SrcB w b A n c i sd) (e : w'.heap[b]? = w.heap[b]?) : SrcB w' b A n c i sd := e.trans h
theorem SrcB.set1 {w : World} {b n c : Nat} {A : Option Addr} {i sd i' : Int} (h : SrcB w b A n c i sd) : SrcB (w.setCell ⟨b, 1, none⟩ (.int .i64 i')) b A n c i' sd := by
  unfold SrcB at h ⊢
  simp [World.setCell, Array.getElem?_modify, h]
theorem SrcB.set2 {w : World} {b n c : Nat} {A : Option Addr} {i sd sd' : Int} (h : SrcB w b A n c i sd) : SrcB (w.setCell ⟨b, 2, none⟩ (.int .u64 sd')) b A n c i sd' := by
  unfold SrcB at h ⊢
  simp [World.setCell, Array.getElem?_modify, h]
/-- a source in block b that has drawn at most K times, whose bytes lie in blocks before B -/
def Src (B b K : Nat) (w : World) : Prop := ∃ (A : Option Addr) (n c : Nat) (xs : List Int) (i sd : Int), SrcB w b A n c i sd ∧ Bs w B A n xs ∧ B ≤ b ∧ n ≤ 1048576 ∧ 0 ≤ i ∧ i ≤ (K : Int)
theorem Src.on {B b K : Nat} {w w' : World} (h : Src B b K w) (hs : w.Since (b + 1) w') : Src B b K w' := by
  obtain ⟨A, n, c, xs, i, sd, h1, h2, h3, h4, h5⟩ := h
  exact ⟨A, n, c, xs, i, sd, h1.of (hs.block b (by omega)), h2.since hs (by omega), h3, h4, h5⟩
theorem Src.up {B b K K' : Nat} {w : World} (h : Src B b K w) (hK : K ≤ K') : Src B b K' w := by
  obtain ⟨A, n, c, xs, i, sd, h1, h2, h3, h4, h5, h6⟩ := h
  exact ⟨A, n, c, xs, i, sd, h1, h2, h3, h4, h5, by omega⟩
theorem Src.lt {B b K : Nat} {w : World} (h : Src B b K w) : b < w.heap.size := by
  obtain ⟨A, n, c, xs, i, sd, h1, h2, h3, h4, h5, h6⟩ := h
  exact h1.lt
theorem Src.drewN {B b K : Nat} {w : World} (h : Src B b K w) (m : Nat) : Src B b K (w.drewN m) := h.on (since_drewN (World.Since.refl _ _) m)
theorem on_post {b lo : Nat} {w a c : World} (h : On b w a) (s : a.Since lo c) (hl : w.heap.size ≤ lo) (hb : b < w.heap.size) : On b w c :=
  ⟨h.1.trans (since_mono s (by omega)), fun x hx hn => (s.block x (by omega)).trans (h.2 x hx hn)⟩
theorem Src.low {B b K : Nat} {w : World} (h : Src B b K w) : B ≤ b := by
  obtain ⟨A, n, c, xs, i, sd, h1, h2, h3, h4, h5, h6⟩ := h
  exact h3
set_option maxHeartbeats 4000000 in
set_option maxRecDepth 100000 in
theorem next_any (B b K : Nat) (w : World) (h : Src B b K w) (hK : K ≤ 1000000000) :
    Calls Try.prog 40 #[.pointer (some ⟨b, 0, none⟩)] w fun e w' => ∃ v : Int, e = .returned (.int .i64 v) ∧ 0 ≤ v ∧ v < 256 ∧ Src B b (K + 1) w' ∧ On b w w' := by
  obtain ⟨A, n, c, xs, i, sd, h1, h2, h3, h4, h5, h6⟩ := h
  have H1 := Lib.hid h1; have H2 := Lib.hid h2
  have c0 := h1.c0; have c1 := h1.c1; have c2 := h1.c2
  have f1 := h1.free (q := 1); have f2 := h1.free (q := 2)
  clear h1 h2
  by_cases hi : i < (n : Int)
  · have hd : decide (i < (n : Int)) = true := decide_eq_true hi
    have hd2 : decide (i + 1 ≤ (n : Int)) = true := decide_eq_true (by omega)
    obtain ⟨j, rfl⟩ := Int.eq_ofNat_of_zero_le h5
    obtain ⟨g, off, rfl, hg, hc⟩ := H2.out.2.2 (by omega)
    have hcell := hc j (by omega)
    have hv := H2.out.2.1 j
    clear hc
    go_enter Try.func40, Try.ntmps40
    go_wp2_with fail
    go_quiet (fail)
    go_wp2_with fail
    go_quiet (fail)
    go_wp2_with fail
    generalize IntKind.wrap .u64 (IntKind.wrap .u64 (_ + _) + 1442695040888963407) = sd'
    generalize hW : World.setCell _ _ _ = W
    have B1 : Hid (SrcB W b (some ⟨g, off, none⟩) n c ((j : Int) + 1) sd') := Lib.hid (by rw [← hW]; exact H1.out.set1.set2)
    have O1 : Hid (On b w W) := Lib.hid (by rw [← hW]; exact ((On.refl _ _).set _ _).set _ _)
    have d0 := B1.out.c0; have d1 := B1.out.c1; have d2 := B1.out.c2
    clear hW
    go_quiet (fail)
    go_wp2
    go_ret
    exact ⟨_, rfl, hv.1, hv.2, ⟨_, n, c, xs, _, sd', B1.out, by first | exact (H2.out.since O1.out.1 h3).drewN _ | exact ((H2.out.since O1.out.1 h3).drewN _).drewN _, h3, h4, by omega, by omega⟩, by first | exact O1.out.drewN _ | exact (O1.out.drewN _).drewN _⟩
  · have hd : decide (i < (n : Int)) = false := decide_eq_false hi
    have hd2 : decide (i + 1 ≤ (n : Int)) = false := decide_eq_false (by omega)
    go_enter Try.func40, Try.ntmps40
    go_wp2_with fail
    go_quiet (fail)
    go_wp2_with fail
    generalize IntKind.wrap .u64 (IntKind.wrap .u64 _ + 1442695040888963407) = sd'
    generalize hW : World.setCell _ _ _ = W
    have B1 : Hid (SrcB W b A n c (i + 1) sd') := Lib.hid (by rw [← hW]; exact H1.out.set1.set2)
    have O1 : Hid (On b w W) := Lib.hid (by rw [← hW]; exact ((On.refl _ _).set _ _).set _ _)
    have d0 := B1.out.c0; have d1 := B1.out.c1; have d2 := B1.out.c2
    clear hW
    go_quiet (fail)
    go_wp2
    go_ret
    have h255 := and255u (sd' / 1099511627776)
    exact ⟨_, rfl, h255.1, h255.2, ⟨_, n, c, xs, _, sd', B1.out, by first | exact (H2.out.since O1.out.1 h3).drewN _ | exact ((H2.out.since O1.out.1 h3).drewN _).drewN _, h3, h4, by omega, by omega⟩, by first | exact O1.out.drewN _ | exact (O1.out.drewN _).drewN _⟩
end Go.Proofs.Ytfgebggfoboalaa

/- Draws: picks of numbers. -/
set_option linter.unusedVariables false
set_option linter.unusedSimpArgs false
namespace Go.Proofs.Ytfgebggfoboalaa
open Fl Go.RowKit
set_option maxHeartbeats 4000000 in
set_option maxRecDepth 100000 in
theorem pick_any (B b K : Nat) (n : Int) (w : World) (h : Src B b K w) (hK : K ≤ 1000000) (hn : n ≤ 1000000000) :
    Calls Try.prog 21 #[.pointer (some ⟨b, 0, none⟩), .int .i64 n] w fun e w' => ∃ v : Int, e = .returned (.int .i64 v) ∧ 0 ≤ v ∧ (1 ≤ n → v < n) ∧ Src B b (K + 2) w' ∧ On b w w' := by
  by_cases h1 : n ≤ 1
  · have hd : decide (n ≤ 1) = true := decide_eq_true h1
    go_enter Try.func21, Try.ntmps21
    go_wp2
    go_ret
    exact ⟨0, rfl, by omega, fun _ => by omega, h.up (by omega), On.refl _ _⟩
  · have hd : decide (n ≤ 1) = false := decide_eq_false h1
    have hz : n ≠ 0 := by omega
    have HH := Lib.hid h; clear h
    by_cases h2 : 200 < n
    · have hd2 : decide (200 < n) = true := decide_eq_true h2
      go_enter Try.func21, Try.ntmps21
      go_wp2_with fail
      refine (next_any B b K w HH.out (by omega)).mono ?_
      rintro e w1 ⟨v1, rfl, a1, a2, s1, o1⟩
      have S1 := Lib.hid s1; have O1 := Lib.hid o1; clear s1 o1
      go_wp2_with fail
      refine (next_any B b (K + 1) w1 S1.out (by omega)).mono ?_
      rintro e w2 ⟨v2, rfl, a3, a4, s2, o2⟩
      have S2 := Lib.hid s2; have O2 := Lib.hid o2; clear s2 o2
      go_wp2
      go_ret
      exact ⟨_, rfl, by exact Int.emod_nonneg _ hz, fun _ => by exact Int.emod_lt_of_pos _ (by omega), S2.out, O1.out.trans O2.out⟩
    · have hd2 : decide (200 < n) = false := decide_eq_false h2
      go_enter Try.func21, Try.ntmps21
      go_wp2_with fail
      refine (next_any B b K w HH.out (by omega)).mono ?_
      rintro e w1 ⟨v1, rfl, a1, a2, s1, o1⟩
      have S1 := Lib.hid s1; have O1 := Lib.hid o1; clear s1 o1
      go_wp2
      go_ret
      exact ⟨_, rfl, by exact Int.emod_nonneg _ hz, fun _ => by exact Int.emod_lt_of_pos _ (by omega), S1.out.up (by omega), O1.out⟩
theorem one_any (B b K : Nat) (n : Int) (w : World) (h : Src B b K w) (hK : K ≤ 1000000) (hn : n ≤ 1000000000) :
    Calls Try.prog 41 #[.pointer (some ⟨b, 0, none⟩), .int .i64 n] w fun e w' => ∃ v : Bool, e = .returned (.bool v) ∧ Src B b (K + 2) w' ∧ On b w w' := by
  have HH := Lib.hid h; clear h
  go_enter Try.func41, Try.ntmps41
  go_wp2_with fail
  refine (pick_any B b K n w HH.out hK hn).mono ?_
  rintro e w1 ⟨v1, rfl, a1, a2, s1, o1⟩
  have S1 := Lib.hid s1; have O1 := Lib.hid o1; clear s1 o1
  go_wp2
  go_ret
  exact ⟨_, rfl, S1.out, O1.out⟩
/-- one of a list of numbers that lie in a block of their own -/
theorem among_any (B b K g n : Nat) (xs : List Int) (w : World) (h : Src B b K w) (hK : K ≤ 1000000) (hx : Is w w.heap.size (some ⟨g, 0, none⟩) n xs) (h0 : 0 < n) (hn : n ≤ 1000000) (hg : b < g) (hlt : g < w.heap.size) :
    Calls Try.prog 56 #[.pointer (some ⟨b, 0, none⟩), .slice (some ⟨g, 0, none⟩) n n] w fun e w' => ∃ k : Nat, e = .returned (.int .i64 (wi xs k)) ∧ k < n ∧ Src B b (K + 2) w' ∧ On b w w' := by
  have HH := Lib.hid h; have HX := Lib.hid hx; clear h hx
  go_enter Try.func56, Try.ntmps56
  go_wp2_with fail
  refine (pick_any B b K n w HH.out hK (by omega)).mono ?_
  rintro e w1 ⟨v1, rfl, a1, a2, s1, o1⟩
  have S1 := Lib.hid s1; have O1 := Lib.hid o1; clear s1 o1
  obtain ⟨k, rfl⟩ := Int.eq_ofNat_of_zero_le a1
  have hk : k < n := by have := a2 (by omega); omega
  have hcell : w1.cell? ⟨g, k, none⟩ = some (.int .i64 (wi xs k)) := by
    obtain ⟨g', off, e, hg', hc⟩ := HX.out.2 h0
    injection e with e
    injection e with e1 e2
    subst e1; subst e2
    have := hc k hk
    rw [Nat.zero_add] at this
    exact (cell_of_block (O1.out.2 g hlt (by omega)) _).trans this
  go_wp2
  go_ret
  exact ⟨k, rfl, hk, S1.out, O1.out⟩
end Go.Proofs.Ytfgebggfoboalaa

/- Draws: numbers and lists of numbers, of any bits. -/
set_option linter.unusedVariables false
set_option linter.unusedSimpArgs false
namespace Go.Proofs.Ytfgebggfoboalaa
open Fl Go.RowKit
set_option maxHeartbeats 4000000 in
set_option maxRecDepth 100000 in
theorem plain_any (B b K : Nat) (w : World) (h : Src B b K w) (hK : K ≤ 900000) :
    Calls Try.prog 23 #[.pointer (some ⟨b, 0, none⟩)] w fun e w' => ∃ q Q, e = .returned (.float .f32 q) ∧ Hid (Fv .f32 q Q) ∧ Src B b (K + 4) w' ∧ On b w w' := by
  have HH := Lib.hid h; clear h
  go_enter Try.func23, Try.ntmps23
  go_wp2_with fail
  refine (pick_any B b K 129 w HH.out (by omega) (by omega)).mono ?_
  rintro e w1 ⟨v1, rfl, a1, a2, s1, o1⟩
  have a3 := a2 (by omega)
  have S1 := Lib.hid s1; have O1 := Lib.hid o1; clear s1 o1 a2
  go_wp2_with fail
  refine (one_any B b (K + 2) 4 w1 S1.out (by omega) (by omega)).mono ?_
  rintro e w2 ⟨v2, rfl, s2, o2⟩
  have S2 := Lib.hid s2; have O2 := Lib.hid o2; clear s2 o2
  have q1 := fI_fv (v1 - 64)
  have q7 : Hid (Fv .f32 1088421888 (some 1088421888)) := fvc (by decide) (by decide)
  have q16 : Hid (Fv .f32 1098907648 (some 1098907648)) := fvc (by decide) (by decide)
  cases v2
  all_goals
    go_wp2_with (with_reducible_and_instances refine Lo.wpList_fo _ rfl _ _ _ _ _ rfl _ _ _ _ _ rfl rfl rfl (by assumption) (by assumption) ?_; intro rr nn hrr)
    go_ret
    exact ⟨_, _, rfl, hrr, S2.out.drewN _, (O1.out.trans O2.out).drewN _⟩
theorem is_alloc (w : World) (T : TypeId) (xs : List Int) : Is (w.alloc (.cells (xs.map (Value.int .i64)).toArray T)) (w.alloc (.cells (xs.map (Value.int .i64)).toArray T)).heap.size (some ⟨w.heap.size, 0, none⟩) xs.length xs :=
  ⟨rfl, fun _ => ⟨w.heap.size, 0, rfl, by simp, fun k hk => by
    have h := Go.Deep.blk_alloc_new w (.cells (xs.map (Value.int .i64)).toArray T)
    rw [Nat.zero_add]
    unfold World.cell?
    simp only [h]
    simp [hk, iv, wi]⟩⟩
def numsA : List Int := [0, 2147483648, 2139095040, 4286578688, 2143289344, 1, 2139095039, 8388608, 8388607, 2147483649]
def numsB : List Int := [8388608, 2130706432, 1610612736, 536870912]
theorem numsA_in : ∀ k, k < 10 → 0 ≤ wi numsA k ∧ wi numsA k < 4294967296 := by decide
theorem numsB_in : ∀ k, k < 4 → 0 ≤ wi numsB k ∧ wi numsB k < 4294967296 := by decide
theorem from_int (z : Int) (h0 : 0 ≤ z) (h1 : z < 4294967296) (w : World) : Calls Try.prog 55 #[.int .i64 z] w fun e w' => ∃ q, e = .returned (.float .f32 q) ∧ Hid (Fv .f32 q (ab .f32 q)) ∧ w = w' := by
  obtain ⟨m, rfl⟩ := Int.eq_ofNat_of_zero_le h0
  have hm : m < 4294967296 := by omega
  exact (l01From_any m w hm).mono fun e w' ⟨h1, h2⟩ => ⟨m, h1, Lib.hid ⟨hm, rfl⟩, h2⟩
set_option maxHeartbeats 4000000 in
set_option maxRecDepth 100000 in
theorem float_any (B b K : Nat) (w : World) (h : Src B b K w) (hK : K ≤ 800000) :
    Calls Try.prog 42 #[.pointer (some ⟨b, 0, none⟩)] w fun e w' => ∃ q Q, e = .returned (.float .f32 q) ∧ Hid (Fv .f32 q Q) ∧ Src B b (K + 12) w' ∧ On b w w' := by
  have HH := Lib.hid h
  have hlt := h.lt
  clear h
  go_enter Try.func42, Try.ntmps42
  go_wp2_with fail
  refine (one_any B b K 12 w HH.out (by omega) (by omega)).mono ?_
  rintro e w1 ⟨v1, rfl, s1, o1⟩
  have S1 := Lib.hid s1; have O1 := Lib.hid o1; clear s1 o1
  cases v1
  · go_wp2_with fail
    refine (plain_any B b (K + 2) w1 S1.out (by omega)).mono ?_
    rintro e w2 ⟨q, Q, rfl, hq, s2, o2⟩
    have S2 := Lib.hid s2; have O2 := Lib.hid o2; clear s2 o2
    go_wp2
    go_ret
    exact ⟨_, _, rfl, hq, S2.out.up (by omega), O1.out.trans O2.out⟩
  · go_wp2_with fail
    refine (pick_any B b (K + 2) 4 w1 S1.out (by omega) (by omega)).mono ?_
    rintro e w2 ⟨v, rfl, a1, a2, s2, o2⟩
    have a3 := a2 (by omega)
    have S2 := Lib.hid s2; have O2 := Lib.hid (O1.out.trans o2); clear s2 o2 a2
    have hlt2 : b < w2.heap.size := S2.out.lt
    by_cases h0 : v = 0
    · subst h0
      go_wp2_with fail
      generalize hW : World.alloc _ _ = W
      have X1 : Hid (Is W W.heap.size (some ⟨w2.heap.size, 0, none⟩) 10 numsA) := Lib.hid (by rw [← hW]; exact is_alloc w2 2 numsA)
      have Z1 : Hid (W.heap.size = w2.heap.size + 1) := Lib.hid (by rw [← hW]; simp)
      have O3 : Hid (On b w W) := Lib.hid (by rw [← hW]; exact O2.out.alloc (by omega) _)
      have S3 : Hid (Src B b (K + 4) W) := Lib.hid (S2.out.on (by rw [← hW]; exact (World.Since.refl _ _).alloc (by omega) _))
      clear hW
      have hz := Z1.out
      refine (among_any B b (K + 4) w2.heap.size 10 numsA W S3.out (by omega) X1.out (by omega) (by omega) hlt2 (by omega)).mono ?_
      rintro e w3 ⟨k, rfl, hk, s4, o4⟩
      have S4 := Lib.hid s4; have O4 := Lib.hid (O3.out.trans o4); clear s4 o4
      have hm := numsA_in k hk
      generalize wi numsA k = m at *
      go_wp2_with fail
      refine (from_int m hm.1 hm.2 _).mono ?_
      rintro e w5 ⟨q, rfl, hq, rfl⟩
      go_wp2
      go_ret
      exact ⟨_, _, rfl, hq, S4.out.up (by omega), O4.out⟩
    · by_cases h1 : v = 1
      · subst h1
        go_wp2_with fail
        refine (pick_any B b (K + 4) 65536 w2 S2.out (by omega) (by omega)).mono ?_
        rintro e w3 ⟨v3, rfl, b1, b2, s3, o3⟩
        have b3 := b2 (by omega)
        have S3 := Lib.hid s3; have O3 := Lib.hid (O2.out.trans o3); clear s3 o3 b2
        go_wp2_with fail
        refine (pick_any B b (K + 4 + 2) 65536 w3 S3.out (by omega) (by omega)).mono ?_
        rintro e w4 ⟨v4, rfl, c1, c2, s4, o4⟩
        have c3 := c2 (by omega)
        have S4 := Lib.hid s4; have O4 := Lib.hid (O3.out.trans o4); clear s4 o4 c2
        go_wp2_with fail
        refine (from_int (v3 * 65536 + v4) (by omega) (by omega) _).mono ?_
        rintro e w5 ⟨q, rfl, hq, rfl⟩
        go_wp2
        go_ret
        exact ⟨_, _, rfl, hq, S4.out.up (by omega), O4.out⟩
      · by_cases h2 : v = 2
        · subst h2
          go_wp2_with fail
          refine (pick_any B b (K + 4) 65536 w2 S2.out (by omega) (by omega)).mono ?_
          rintro e w3 ⟨v3, rfl, b1, b2, s3, o3⟩
          have b3 := b2 (by omega)
          have S3 := Lib.hid s3; have O3 := Lib.hid (O2.out.trans o3); clear s3 o3 b2
          go_wp2_with fail
          refine (from_int (v3 * 65536) (by omega) (by omega) _).mono ?_
          rintro e w5 ⟨q, rfl, hq, rfl⟩
          go_wp2
          go_ret
          exact ⟨_, _, rfl, hq, S3.out.up (by omega), O3.out⟩
        · have e0 : decide (v = 0) = false := decide_eq_false h0
          have e1 : decide (v = 1) = false := decide_eq_false h1
          have e2 : decide (v = 2) = false := decide_eq_false h2
          have g0 : (v == 0) = false := by simpa using h0
          have g1 : (v == 1) = false := by simpa using h1
          have g2 : (v == 2) = false := by simpa using h2
          go_wp2_with fail
          refine (plain_any B b (K + 4) w2 S2.out (by omega)).mono ?_
          rintro e w3 ⟨q, Q, rfl, hq, s3, o3⟩
          have S3 := Lib.hid s3; have O3 := Lib.hid (O2.out.trans o3); clear s3 o3
          have hlt3 : b < w3.heap.size := S3.out.lt
          go_wp2_with fail
          generalize hW : World.alloc _ _ = W
          have X1 : Hid (Is W W.heap.size (some ⟨w3.heap.size, 0, none⟩) 4 numsB) := Lib.hid (by rw [← hW]; exact is_alloc w3 2 numsB)
          have Z1 : Hid (W.heap.size = w3.heap.size + 1) := Lib.hid (by rw [← hW]; simp)
          have O5 : Hid (On b w W) := Lib.hid (by rw [← hW]; exact O3.out.alloc (by omega) _)
          have S5 : Hid (Src B b (K + 4 + 4) W) := Lib.hid (S3.out.on (by rw [← hW]; exact (World.Since.refl _ _).alloc (by omega) _))
          clear hW
          have hz := Z1.out
          refine (among_any B b (K + 4 + 4) w3.heap.size 4 numsB W S5.out (by omega) X1.out (by omega) (by omega) hlt3 (by omega)).mono ?_
          rintro e w6 ⟨k, rfl, hk, s6, o6⟩
          have S6 := Lib.hid s6; have O6 := Lib.hid (O5.out.trans o6); clear s6 o6
          have hm := numsB_in k hk
          generalize wi numsB k = m at *
          go_wp2_with fail
          refine (from_int m hm.1 hm.2 _).mono ?_
          rintro e w7 ⟨q2, rfl, hq2, rfl⟩
          go_wp2_with (with_reducible_and_instances refine Lo.wpList_fo _ rfl _ _ _ _ _ rfl _ _ _ _ _ rfl rfl rfl (by assumption) (by assumption) ?_; intro rr nn hrr)
          go_ret
          exact ⟨_, _, rfl, hrr, (S6.out.up (by omega)).drewN _, O6.out.drewN _⟩
end Go.Proofs.Ytfgebggfoboalaa

/- Draws: lists of numbers, and what chooses by a byte. -/
set_option linter.unusedVariables false
set_option linter.unusedSimpArgs false
namespace Go.Proofs.Ytfgebggfoboalaa
open Fl Go.RowKit
/-- a row of numbers whatever they are -/
def RwA (lo : Nat) (w : World) (v : Value) (k : Nat) : Prop := (∃ F, Rw lo w v k F) ∧ ∃ g c, v = .slice (some ⟨g, 0, none⟩) k c
theorem Rw.like {lo : Nat} {w : World} {v : Value} {k : Nat} {F G : Nat → O} (h : Rw lo w v k F) (e : ∀ j, j < k → F j = G j) : Rw lo w v k G := by
  obtain ⟨os, h1, h2, h3⟩ := h
  exact ⟨os, h1, h2, fun j hj => (h3 j hj).trans (e j hj)⟩
theorem Rw.fin {lo : Nat} {w : World} {v : Value} {k : Nat} {F : Nat → O} (h : Rw lo w v k F) : ∃ (A : Option Addr) (c : Nat) (xs : List Nat), v = .slice A k c ∧ k ≤ c ∧ (A = none → k = 0 ∧ c = 0) ∧ (∀ a, A = some a → ∃ g, a = ⟨g, 0, none⟩ ∧ lo ≤ g) ∧ Gs 26 w lo A k xs ∧ Are ⟨A, k, xs⟩ F := by
  obtain ⟨os, h1, hs, hf⟩ := h
  rcases h1.2 with ⟨rfl, rfl⟩ | ⟨g, cap, cur, rfl, hg, _, hk, _⟩
  · exact ⟨none, 0, os, rfl, Nat.le_refl _, fun _ => ⟨rfl, rfl⟩, (fun a h => by cases h), Gs.of_own h1 hs, hf⟩
  · exact ⟨some ⟨g, 0, none⟩, cap, os, rfl, hk, (fun h => by cases h), fun a h => by cases h; exact ⟨g, rfl, hg⟩, Gs.of_own h1 hs, hf⟩
theorem RwA.grown {lo : Nat} {w : World} {v : Value} {k : Nat} {F : Nat → O} (h : Rw lo w v (k + 1) F) : RwA lo w v (k + 1) := by
  refine ⟨⟨F, h⟩, ?_⟩
  obtain ⟨A, c, xs, rfl, _, hn, hs, _⟩ := h.fin
  cases A with
  | none => exact absurd (hn rfl).1 (by omega)
  | some a =>
    obtain ⟨g, rfl, _⟩ := hs a rfl
    exact ⟨g, c, rfl⟩
theorem RwA.end_ {lo : Nat} {w : World} {v : Value} {k : Nat} (h : RwA lo w v k) : ∃ g c xs, v = .slice (some ⟨g, 0, none⟩) k c ∧ k ≤ c ∧ Gs 26 w lo (some ⟨g, 0, none⟩) k xs := by
  obtain ⟨⟨F, hF⟩, g, c, rfl⟩ := h
  obtain ⟨A, c', xs, e, hc, _, _, hg, _⟩ := hF.fin
  injection e with e1 e2 e3
  subst e1; subst e3
  exact ⟨g, c, xs, rfl, hc, hg⟩
theorem RwA.pick {lo : Nat} {w : World} {v : Value} {k : Nat} (h : RwA lo w v k) (Q : O) : ∃ F, Rw lo w v k F ∧ F k = Q := by
  obtain ⟨⟨F, hF⟩, _⟩ := h
  exact ⟨fun j => if j = k then Q else F j, hF.like fun j hj => by simp [show j ≠ k by omega], by simp⟩
theorem RwA.on {lo g : Nat} {w w' : World} {v : Value} {k : Nat} (h : RwA lo w v k) (o : On g w w') (hg : g < lo) : RwA lo w' v k := by
  obtain ⟨⟨F, hF⟩, hv⟩ := h
  exact ⟨⟨F, hF.on o hg⟩, hv⟩
/-- numbers that a call has drawn: a list in memory of its own -/
def PDr (n : Nat) (w : World) (e : Ending) (w' : World) : Prop := ∃ (g c : Nat) (xs : List Nat), e = .returned (.slice (some ⟨g, 0, none⟩) n c) ∧ n ≤ c ∧ Gs 26 w' w.heap.size (some ⟨g, 0, none⟩) n xs ∧ w.Since w.heap.size w'
set_option maxHeartbeats 4000000 in
set_option maxRecDepth 100000 in
theorem floats_any (B b K N : Nat) (w : World) (h : Src B b K w) (hK : K ≤ 100000) (hN : N ≤ 10000) :
    Calls Try.prog 22 #[.pointer (some ⟨b, 0, none⟩), .int .i64 (N : Int)] w fun e w' => ∃ (g c : Nat) (xs : List Nat), e = .returned (.slice (some ⟨g, 0, none⟩) N c) ∧ N ≤ c ∧ Gs 26 w' w.heap.size (some ⟨g, 0, none⟩) N xs ∧ Src B b (K + 2 + 12 * N) w' ∧ On b w w' := by
  have HH := Lib.hid h
  have hlt := h.lt
  clear h
  go_enter Try.func22, Try.ntmps22
  go_wp2_with fail
  generalize hW : World.alloc _ _ = W
  have R1 : Hid (RwA w.heap.size W (.slice (some ⟨w.heap.size, 0, none⟩) 0 0) 0) := Lib.hid (by rw [← hW]; exact ⟨⟨fun _ => none, Rw.start w _ (Nat.le_refl _) _⟩, _, _, rfl⟩)
  have O1 : Hid (On b w W) := Lib.hid (by rw [← hW]; exact (On.refl _ _).alloc (by omega) _)
  have S1 : Hid (Src B b K W) := Lib.hid (HH.out.on (by rw [← hW]; exact (World.Since.refl _ _).alloc (by omega) _))
  clear hW
  refine (one_any B b K 4 W S1.out (by omega) (by omega)).mono ?_
  rintro e w1 ⟨st, rfl, s2, o2⟩
  have S2 := Lib.hid s2; have O2 := Lib.hid (O1.out.trans o2); have R2 := Lib.hid (R1.out.on o2 hlt); clear s2 o2 R1 O1 S1
  cases st
  all_goals
    go_wp2_with fail
    go_loopw [1, 5] (fun i v wr => ∃ k : Nat, k ≤ N ∧ i = .int .i64 ((N : Int) - k) ∧ RwA w.heap.size wr v k ∧ Src B b (K + 2 + 12 * k) wr ∧ On b w wr) (fun i _ _ => (intOf i).toNat)
    case atStart => exact ⟨0, Nat.zero_le _, by simp, R2.out, S2.out, O2.out⟩
    case round =>
      obtain ⟨k, hk, rfl, hr, hs, ho⟩ := hrel
      have HR := Lib.hid hr; have HS := Lib.hid hs; have HO := Lib.hid ho
      clear hr hs ho
      by_cases hlt2 : k < N
      · have hd : decide (0 < (N : Int) - k) = true := decide_eq_true (by omega)
        go_wp2_with fail
        first
        | refine (plain_any B b (K + 2 + 12 * k) wr HS.out (by omega)).mono ?_
        | refine (float_any B b (K + 2 + 12 * k) wr HS.out (by omega)).mono ?_
        rintro e w3 ⟨q, Q, rfl, hq, s3, o3⟩
        have S3 : Hid (Src B b (K + 2 + 12 * (k + 1)) w3) := Lib.hid (s3.up (by omega))
        have O3 := Lib.hid (HO.out.trans o3); have R3 := Lib.hid (HR.out.on o3 hlt)
        clear s3 o3
        obtain ⟨F, hF, hFk⟩ := R3.out.pick Q
        have hlo : w.heap.size ≤ w3.heap.size := O3.out.1.size
        have HF := Lib.hid hF; clear hF
        have hz : Hid (Fv .f32 q (F k)) := by rw [hFk]; exact hq
        have hlt3 : b < w3.heap.size := by omega
        go_wp2_with (first | (at_builtin; refine wpList_app1 rfl (.tmp 20) (.tmp 23) rfl w.heap.size _ k _ rfl _ _ rfl (by simp [go_sem]) (by omega) (by simp; omega) hz (HF.out.alloc _) ?_; intro v' w4 hR4 hS4) | (at_builtin; refine wpList_app1 rfl (.tmp 15) (.tmp 18) rfl w.heap.size _ k _ rfl _ _ rfl (by simp [go_sem]) (by omega) (by simp; omega) hz (HF.out.alloc _) ?_; intro v' w4 hR4 hS4))
        have hs4 : w3.Since w.heap.size w4 := ((World.Since.refl _ _).alloc hlo _).trans hS4.out
        have HS4 := Lib.hid hs4; clear hs4
        go_roundw
        case rel => exact ⟨k + 1, by omega, by go_num, RwA.grown hR4.out, S3.out.on (since_mono HS4.out (by omega)), on_post O3.out HS4.out (Nat.le_refl _) hlt⟩
        case measure => simp [intOf]; omega
      · have hd : decide (0 < (N : Int) - k) = false := decide_eq_false (by omega)
        obtain rfl : k = N := by omega
        obtain ⟨g, cp, zs, rfl, hcp, hg⟩ := HR.out.end_
        have HG := Lib.hid hg; clear hg
        go_wp2
        go_ret
        exact ⟨g, cp, zs, rfl, hcp, HG.out, HS.out, HO.out⟩
end Go.Proofs.Ytfgebggfoboalaa

/- Draws: what laws draw of their bytes. -/
set_option linter.unusedVariables false
set_option linter.unusedSimpArgs false
namespace Go.Proofs.Ytfgebggfoboalaa
open Fl Go.RowKit
theorem source_any (A : Option Addr) (n c : Nat) (xs : List Int) (w : World) (h : Bs w w.heap.size A n xs) (hn : n ≤ 1048576) :
    Calls Try.prog 20 #[.slice A n c] w fun e w' => e = .returned (.pointer (some ⟨w.heap.size, 0, none⟩)) ∧ Src w.heap.size w.heap.size 0 w' ∧ w.Since w.heap.size w' := by
  have HH := Lib.hid h; clear h
  go_enter Try.func20, Try.ntmps20
  go_wp2
  go_ret
  refine ⟨rfl, ⟨A, n, c, xs, 0, 0, Go.Deep.blk_alloc_new _ _, HH.out.since ((World.Since.refl _ _).alloc (Nat.le_refl _) _) (Nat.le_refl _), Nat.le_refl _, hn, by omega, by omega⟩, (World.Since.refl _ _).alloc (Nat.le_refl _) _⟩
set_option maxHeartbeats 4000000 in
set_option maxRecDepth 100000 in
theorem samples_any (A : Option Addr) (n c : Nat) (xs : List Int) (m : Nat) (w : World) (h : Bs w w.heap.size A n xs) (hn : n ≤ 1048576) (hm : m ≤ 9000) :
    Calls Try.prog 7 #[.slice A n c, .int .i64 (m : Int)] w fun e w' => ∃ k, k ≤ m ∧ PDr k w e w' := by
  have HH := Lib.hid h; clear h
  go_enter Try.func7, Try.ntmps7
  go_wp2_with fail
  refine (source_any A n c xs w HH.out hn).mono ?_
  rintro e w1 ⟨rfl, s1, t1⟩
  have S1 := Lib.hid s1; have T1 := Lib.hid t1; clear s1 t1
  go_wp2_with fail
  refine (pick_any w.heap.size w.heap.size 0 ((m : Int) + 1) w1 S1.out (by omega) (by omega)).mono ?_
  rintro e w2 ⟨v, rfl, a1, a2, s2, o2⟩
  have a3 := a2 (by omega)
  obtain ⟨k, rfl⟩ := Int.eq_ofNat_of_zero_le a1
  have S2 := Lib.hid s2; have T2 := Lib.hid (T1.out.trans (o2.since (Nat.le_refl _))); clear s2 o2
  go_wp2_with fail
  refine (floats_any w.heap.size w.heap.size 2 k w2 S2.out (by omega) (by omega)).mono ?_
  rintro e w3 ⟨g, cp, zs, rfl, hp, hg, s3, o3⟩
  have hz := T2.out.size
  have G3 := Lib.hid (hg.less hz); have T3 := Lib.hid (T2.out.trans (o3.since (Nat.le_refl _))); clear hg s3 o3
  go_wp2
  go_ret
  exact ⟨k, by omega, g, cp, zs, rfl, hp, G3.out, T3.out⟩
set_option maxHeartbeats 4000000 in
set_option maxRecDepth 100000 in
theorem plains_any (A : Option Addr) (n c : Nat) (xs : List Int) (m : Nat) (w : World) (h : Bs w w.heap.size A n xs) (hn : n ≤ 1048576) (hm : m ≤ 9000) :
    Calls Try.prog 10 #[.slice A n c, .int .i64 (m : Int)] w (PDr m w) := by
  have HH := Lib.hid h; clear h
  go_enter Try.func10, Try.ntmps10
  go_wp2_with fail
  refine (source_any A n c xs w HH.out hn).mono ?_
  rintro e w1 ⟨rfl, s1, t1⟩
  have S1 := Lib.hid s1; have T1 := Lib.hid t1; clear s1 t1
  go_wp2_with fail
  generalize hW : World.alloc _ _ = W
  have z1 := T1.out.size
  have R2 : Hid (RwA w1.heap.size W (.slice (some ⟨w1.heap.size, 0, none⟩) 0 0) 0) := Lib.hid (by rw [← hW]; exact ⟨⟨fun _ => none, Rw.start w1 _ (Nat.le_refl _) _⟩, _, _, rfl⟩)
  have S2 : Hid (Src w.heap.size w.heap.size 0 W) := Lib.hid (S1.out.on (by rw [← hW]; exact (World.Since.refl _ _).alloc (by have := S1.out.lt; omega) _))
  have O2 : Hid (On w.heap.size w1 W) := Lib.hid (by rw [← hW]; exact (On.refl _ _).alloc z1 _)
  have hl1 : w.heap.size < w1.heap.size := S1.out.lt
  clear hW
  go_loopw [6, 7] (fun v i wr => ∃ k : Nat, k ≤ m ∧ i = .int .i64 (k : Int) ∧ RwA w1.heap.size wr v k ∧ Src w.heap.size w.heap.size (4 * k) wr ∧ On w.heap.size w1 wr) (fun _ i _ => m - (intOf i).toNat)
  case atStart => exact ⟨0, Nat.zero_le _, rfl, R2.out, S2.out, O2.out⟩
  case round =>
    obtain ⟨k, hk, rfl, hr, hs, ho⟩ := hrel
    have HR := Lib.hid hr; have HS := Lib.hid hs; have HO := Lib.hid ho
    clear hr hs ho
    by_cases hlt2 : k < m
    · go_wp2_with fail
      refine (plain_any w.heap.size w.heap.size (4 * k) wr HS.out (by omega)).mono ?_
      rintro e w3 ⟨q, Q, rfl, hq, s3, o3⟩
      have S3 : Hid (Src w.heap.size w.heap.size (4 * (k + 1)) w3) := Lib.hid (s3.up (by omega))
      have O3 := Lib.hid (HO.out.trans o3); have R3 := Lib.hid (HR.out.on o3 hl1)
      clear s3 o3
      obtain ⟨F, hF, hFk⟩ := R3.out.pick Q
      have hlo : w1.heap.size ≤ w3.heap.size := O3.out.1.size
      have HF := Lib.hid hF; clear hF
      have hz : Hid (Fv .f32 q (F k)) := by rw [hFk]; exact hq
      go_wp2_with (at_builtin; refine wpList_app1 rfl (.tmp 16) (.tmp 19) rfl w1.heap.size _ k _ rfl _ _ rfl (by simp [go_sem]) (by omega) (by simp; omega) hz (HF.out.alloc _) ?_; intro v' w4 hR4 hS4)
      have hs4 : w3.Since w1.heap.size w4 := ((World.Since.refl _ _).alloc hlo _).trans hS4.out
      have HS4 := Lib.hid hs4; clear hs4
      go_roundw
      case rel => exact ⟨k + 1, by omega, by go_num, RwA.grown hR4.out, S3.out.on (since_mono HS4.out (by omega)), on_post O3.out HS4.out (Nat.le_refl _) hl1⟩
      case measure => simp [intOf]; omega
    · obtain rfl : k = m := by omega
      obtain ⟨g, cp, zs, rfl, hcp, hg⟩ := HR.out.end_
      have HG := Lib.hid (hg.less z1); clear hg
      have T3 : Hid (w.Since w.heap.size wr) := Lib.hid (T1.out.trans (HO.out.since (Nat.le_refl _)))
      go_wp2
      go_ret
      exact ⟨g, cp, zs, rfl, hcp, HG.out, T3.out⟩
/-- a number below m that a byte chooses -/
theorem r8At_any (A : Option Addr) (n c : Nat) (xs : List Int) (k m : Int) (w : World) (h : Bs w w.heap.size A n xs) (hk : 0 ≤ k) (hk2 : k ≤ 1000000000) :
    Calls Try.prog 9 #[.slice A n c, .int .i64 k, .int .i64 m] w fun e w' => ∃ v : Int, e = .returned (.int .i64 v) ∧ 0 ≤ v ∧ (1 ≤ m → v < m) ∧ w.Since w.heap.size w' := by
  have HH := Lib.hid h; clear h
  obtain ⟨j, rfl⟩ := Int.eq_ofNat_of_zero_le hk
  by_cases h1 : m ≤ 1
  · have hd : decide (m ≤ 1) = true := decide_eq_true h1
    go_enter Try.func9, Try.ntmps9
    go_wp2
    go_ret
    exact ⟨0, rfl, by omega, fun _ => by omega, by (repeat (first | (with_reducible refine Fl.sinDrew ?_) | (with_reducible refine World.Since.drew ?_) | (with_reducible refine Fl.sinSet ?_ ?_; rotate_left) | (with_reducible refine Fl.sinAlloc ?_ ?_; rotate_left) | with_reducible exact World.Since.refl _ _ | with_reducible assumption | (with_reducible refine Fl.sinStep (by with_reducible assumption) ?_))); all_goals (first | omega | (simp; done) | (simp; omega) | (simp [go_sem]; done) | (simp [go_sem]; omega))⟩
  · have hd : decide (m ≤ 1) = false := decide_eq_false h1
    by_cases h2 : (n : Int) ≤ (j : Int)
    · have hd2 : decide ((n : Int) ≤ (j : Int)) = true := decide_eq_true h2
      go_enter Try.func9, Try.ntmps9
      go_wp2
      go_ret
      exact ⟨0, rfl, by omega, fun _ => by omega, by (repeat (first | (with_reducible refine Fl.sinDrew ?_) | (with_reducible refine World.Since.drew ?_) | (with_reducible refine Fl.sinSet ?_ ?_; rotate_left) | (with_reducible refine Fl.sinAlloc ?_ ?_; rotate_left) | with_reducible exact World.Since.refl _ _ | with_reducible assumption | (with_reducible refine Fl.sinStep (by with_reducible assumption) ?_))); all_goals (first | omega | (simp; done) | (simp; omega) | (simp [go_sem]; done) | (simp [go_sem]; omega))⟩
    · have hd2 : decide ((n : Int) ≤ (j : Int)) = false := decide_eq_false h2
      obtain ⟨g, off, rfl, hg, hc⟩ := HH.out.2.2 (by omega)
      have hcell := hc j (by omega)
      have hv := HH.out.2.1 j
      have hz : m ≠ 0 := by omega
      clear hc
      go_enter Try.func9, Try.ntmps9
      go_wp2
      go_ret
      exact ⟨_, rfl, Int.emod_nonneg _ hz, fun _ => Int.emod_lt_of_pos _ (by omega), by (repeat (first | (with_reducible refine Fl.sinDrew ?_) | (with_reducible refine World.Since.drew ?_) | (with_reducible refine Fl.sinSet ?_ ?_; rotate_left) | (with_reducible refine Fl.sinAlloc ?_ ?_; rotate_left) | with_reducible exact World.Since.refl _ _ | with_reducible assumption | (with_reducible refine Fl.sinStep (by with_reducible assumption) ?_))); all_goals (first | omega | (simp; done) | (simp; omega) | (simp [go_sem]; done) | (simp [go_sem]; omega))⟩
theorem r8Long_any (A B : Option Addr) (n c m d : Nat) (b : Bool) (w : World) (h : (decide ((48 : Int) < n) || decide ((48 : Int) < m)) = b) :
    Calls Try.prog 6 #[.slice A n c, .slice B m d] w fun e w' => e = .returned (.bool b) ∧ w.Since w.heap.size w' := by
  subst h
  cases h1 : decide ((48 : Int) < n)
  all_goals
    go_enter Try.func6, Try.ntmps6
    go_wp2
    go_ret
    exact ⟨ret_bool (by simp), by (repeat (first | (with_reducible refine Fl.sinDrew ?_) | (with_reducible refine World.Since.drew ?_) | (with_reducible refine Fl.sinSet ?_ ?_; rotate_left) | (with_reducible refine Fl.sinAlloc ?_ ?_; rotate_left) | with_reducible exact World.Since.refl _ _ | with_reducible assumption | (with_reducible refine Fl.sinStep (by with_reducible assumption) ?_))); all_goals (first | omega | (simp; done) | (simp; omega) | (simp [go_sem]; done) | (simp [go_sem]; omega))⟩
end Go.Proofs.Ytfgebggfoboalaa

/- A slice of integers that came in. -/
set_option linter.unusedVariables false
set_option linter.unusedSimpArgs false
namespace Go.Proofs.Ytfgebggfoboalaa
namespace Fl
open Go.ChangeShapes Go.WideShapes Go.RowKit Go.WideMaps Go.WideElems
section
variable {H : Type} {enc : TypeId × Value → H} {P : Program}
theorem trod_in {w : World} {base : Nat} {spare : Nat → Bool} {held : Bool} {fuel : Nat} {t : TypeId} {k : IntKind} {cs : List Value} {x : DataW H × List MemPlace} (ht : P.underlying t = some (.int k))
    (h : DataW.trod enc P w base spare held fuel t cs = some x) : ∃ b, cs = [.int k b] ∧ (Lit.int k b).wf = true := by
  cases fuel with
  | zero => simp [DataW.trod] at h
  | succ n =>
    unfold DataW.trod at h
    rw [ht] at h
    split at h <;> simp_all
theorem open_is {W : World} {base b0 : Nat} {r : Reach} {t e : TypeId} {v : Value} {d : DataW H} {ps : List MemPlace} (ht : P.underlying t = some (.slice e)) (he : P.underlying e = some (.int .i64)) (hc : P.cellsOf e = 1)
    (hval : Value.okWide P W r b0 t v) (h : DataW.Trod enc P W base (fun _ => true) true t v d ps) :
    ∃ (A : Option Addr) (n c : Nat) (xs : List Int), v = .slice A n c ∧ (Is W W.heap.size A n xs ∧ ∀ k, k < n → (Lit.int .i64 (wi xs k)).wf = true) ∧ n ≤ 9223372036854775807 := by
  obtain ⟨A, n, c, rfl⟩ := okWide_slice ht hval
  obtain ⟨fuel, hf⟩ := h
  rcases Go.Deep.open_slice ht hf with ⟨hcs, _⟩ | ⟨a, len, cap, m, k, D, Pl, hcs, _, hl, hm, hmm, _, hi⟩
  · simp only [Value.cells, Array.toList] at hcs
    injection hcs with hcs _
    injection hcs with h1 h2 h3
    subst h1; subst h2; subst h3
    exact ⟨none, 0, 0, [], rfl, ⟨⟨rfl, (fun h => by omega)⟩, (fun k h => by omega)⟩, by omega⟩
  · simp only [Value.cells, Array.toList] at hcs
    injection hcs with hcs _
    injection hcs with h1 h2 h3
    subst h1; subst h2; subst h3
    rw [if_pos rfl] at hmm
    subst hmm
    have hcell : ∀ i, i < m → ∃ b : Int, W.cell? (a.add i) = some (.int .i64 b) ∧ (Lit.int .i64 b).wf = true := by
      intro i him
      obtain ⟨cs', hcs', htr⟩ := hi i him
      rw [hc, Nat.mul_one] at hcs'
      obtain ⟨_, hlen, hat⟩ := World.cells?_some hcs'
      obtain ⟨b, hb, hw⟩ := trod_in he htr
      have h0 := hat 0 (by omega)
      rw [hb] at h0
      refine ⟨b, ?_, hw⟩
      have e : (a.add i).add 0 = a.add i := by simp [Addr.add]
      rw [e] at h0
      exact h0
    let f : Nat → Int := fun i => if h : i < m then Classical.choose (hcell i h) else 0
    have hfs : ∀ i (h : i < m), W.cell? (a.add i) = some (.int .i64 (f i)) ∧ (Lit.int .i64 (f i)).wf = true := by
      intro i h
      have := Classical.choose_spec (hcell i h)
      simp only [f, dif_pos h]
      exact this
    refine ⟨some a, n, m, (List.range n).map f, rfl, ⟨⟨by simp, ?_⟩, ?_⟩, by unfold maxLen at hm; omega⟩
    · intro hn
      obtain ⟨g, off, spot⟩ := a
      have h0 := (hfs 0 (by omega)).1
      have hspot : spot = none := by simpa [Addr.add] using World.cell?_spot h0
      subst hspot
      refine ⟨g, off, rfl, ?_, fun k hk => ?_⟩
      · have h1 : W.cell? ⟨g, off, none⟩ = some (.int .i64 (f 0)) := by simpa [Addr.add] using h0
        rcases Nat.lt_or_ge g W.heap.size with h2 | h2
        · exact h2
        · simp [World.cell?, Array.getElem?_eq_none h2] at h1
      · have h1 := (hfs k (by omega)).1
        rw [Go.WideShapes.add_plain] at h1
        rw [h1]
        unfold iv wi
        simp [hk]
    · intro k hk
      have h1 := (hfs k (by omega)).2
      unfold wi
      simpa [hk] using h1
end
end Fl
end Go.Proofs.Ytfgebggfoboalaa

/- Draws: lists that a law compares, and the bytes of a law. -/
set_option linter.unusedVariables false
set_option linter.unusedSimpArgs false
namespace Go.Proofs.Ytfgebggfoboalaa
open Fl Go.RowKit
namespace Fl
open Go.ChangeShapes Go.WideShapes Go.RowKit Go.WideMaps Go.WideElems
section
variable {H : Type} {enc : TypeId × Value → H} {P : Program}
theorem open_bs {W : World} {base b0 : Nat} {r : Reach} {t e : TypeId} {v : Value} {d : DataW H} {ps : List MemPlace} (ht : P.underlying t = some (.slice e)) (he : P.underlying e = some (.int .u8)) (hc : P.cellsOf e = 1)
    (hval : Value.okWide P W r b0 t v) (h : DataW.Trod enc P W base (fun _ => true) true t v d ps) :
    ∃ (A : Option Addr) (n c : Nat) (xs : List Int), v = .slice A n c ∧ Bs W W.heap.size A n xs ∧ n ≤ 9223372036854775807 := by
  obtain ⟨A, n, c, rfl⟩ := okWide_slice ht hval
  obtain ⟨fuel, hf⟩ := h
  rcases Go.Deep.open_slice ht hf with ⟨hcs, _⟩ | ⟨a, len, cap, m, k, D, Pl, hcs, _, hl, hm, hmm, _, hi⟩
  · simp only [Value.cells, Array.toList] at hcs
    injection hcs with hcs _
    injection hcs with h1 h2 h3
    subst h1; subst h2; subst h3
    exact ⟨none, 0, 0, [], rfl, ⟨rfl, (fun k => by simp [wi]), (fun h => by omega)⟩, by omega⟩
  · simp only [Value.cells, Array.toList] at hcs
    injection hcs with hcs _
    injection hcs with h1 h2 h3
    subst h1; subst h2; subst h3
    rw [if_pos rfl] at hmm
    subst hmm
    have hcell : ∀ i, i < m → ∃ b : Int, W.cell? (a.add i) = some (.int .u8 b) ∧ (Lit.int .u8 b).wf = true := by
      intro i him
      obtain ⟨cs', hcs', htr⟩ := hi i him
      rw [hc, Nat.mul_one] at hcs'
      obtain ⟨_, hlen, hat⟩ := World.cells?_some hcs'
      obtain ⟨b, hb, hw⟩ := trod_in he htr
      have h0 := hat 0 (by omega)
      rw [hb] at h0
      refine ⟨b, ?_, hw⟩
      have e : (a.add i).add 0 = a.add i := by simp [Addr.add]
      rw [e] at h0
      exact h0
    let f : Nat → Int := fun i => if h : i < m then Classical.choose (hcell i h) else 0
    have hfs : ∀ i (h : i < m), W.cell? (a.add i) = some (.int .u8 (f i)) ∧ (Lit.int .u8 (f i)).wf = true := by
      intro i h
      have := Classical.choose_spec (hcell i h)
      simp only [f, dif_pos h]
      exact this
    have hw8 : ∀ i, 0 ≤ f i ∧ f i < 256 := by
      intro i
      by_cases h : i < m
      · have h1 := (hfs i h).2
        simp only [Lit.wf, Bool.and_eq_true, decide_eq_true_eq] at h1
        have e1 : IntKind.min .u8 = 0 := by kernel_rfl
        have e2 : IntKind.max .u8 = 255 := by kernel_rfl
        rw [e1, e2] at h1
        omega
      · simp [f, h]
    refine ⟨some a, n, m, (List.range n).map f, rfl, ⟨by simp, ?_, ?_⟩, by unfold maxLen at hm; omega⟩
    · intro k
      unfold wi
      by_cases hk : k < n
      · simpa [hk] using hw8 k
      · simp [hk]
    · intro hn
      obtain ⟨g, off, spot⟩ := a
      have h0 := (hfs 0 (by omega)).1
      have hspot : spot = none := by simpa [Addr.add] using World.cell?_spot h0
      subst hspot
      refine ⟨g, off, rfl, ?_, fun k hk => ?_⟩
      · have h1 : W.cell? ⟨g, off, none⟩ = some (.int .u8 (f 0)) := by simpa [Addr.add] using h0
        rcases Nat.lt_or_ge g W.heap.size with h2 | h2
        · exact h2
        · simp [World.cell?, Array.getElem?_eq_none h2] at h1
      · have h1 := (hfs k (by omega)).1
        rw [Go.WideShapes.add_plain] at h1
        rw [h1]
        unfold wi
        simp [hk]
end
end Fl
end Go.Proofs.Ytfgebggfoboalaa

/- Plain numbers: sevenths and sixteenths, all of them. -/
set_option linter.unusedVariables false
set_option linter.unusedSimpArgs false
namespace Go.Proofs.Ytfgebggfoboalaa
open Fl Go.RowKit
def plL : List Nat := [3239201061, 3239051264, 3238901467, 3238751671, 3238601874, 3238452078, 3238302281, 3238152485, 3238002688, 3237703095, 3237403502, 3237103909,
  3236804315, 3236504722, 3236205129, 3235905536, 3235605943, 3235306350, 3235006757, 3234707163, 3234407570, 3234107977, 3233808384, 3233508791,
  3233209198, 3232909605, 3232610011, 3232310418, 3232010825, 3231711232, 3231411639, 3231112046, 3230812453, 3230512859, 3230213266, 3229913673,
  3229614080, 3229014894, 3228415707, 3227816521, 3227217335, 3226618149, 3226018962, 3225419776, 3224820590, 3224221403, 3223622217, 3223023031,
  3222423845, 3221824658, 3221225472, 3220027099, 3218828727, 3217630354, 3216431982, 3215233609, 3214035237, 3212836864, 3210440119, 3208043374,
  3205646629, 3202051511, 3197258021, 3188869413, 0, 1041385765, 1049774373, 1054567863, 1058162981, 1060559726, 1062956471, 1065353216,
  1066551589, 1067749961, 1068948334, 1070146706, 1071345079, 1072543451, 1073741824, 1074341010, 1074940197, 1075539383, 1076138569, 1076737755,
  1077336942, 1077936128, 1078535314, 1079134501, 1079733687, 1080332873, 1080932059, 1081531246, 1082130432, 1082430025, 1082729618, 1083029211,
  1083328805, 1083628398, 1083927991, 1084227584, 1084527177, 1084826770, 1085126363, 1085425957, 1085725550, 1086025143, 1086324736, 1086624329,
  1086923922, 1087223515, 1087523109, 1087822702, 1088122295, 1088421888, 1088721481, 1089021074, 1089320667, 1089620261, 1089919854, 1090219447,
  1090519040, 1090668837, 1090818633, 1090968430, 1091118226, 1091268023, 1091417819, 1091567616, 1091717413, 3229614080, 3229351936, 3229089792,
  3228827648, 3228565504, 3228303360, 3228041216, 3227779072, 3227516928, 3227254784, 3226992640, 3226730496, 3226468352, 3226206208, 3225944064,
  3225681920, 3225419776, 3225157632, 3224895488, 3224633344, 3224371200, 3224109056, 3223846912, 3223584768, 3223322624, 3223060480, 3222798336,
  3222536192, 3222274048, 3222011904, 3221749760, 3221487616, 3221225472, 3220701184, 3220176896, 3219652608, 3219128320, 3218604032, 3218079744,
  3217555456, 3217031168, 3216506880, 3215982592, 3215458304, 3214934016, 3214409728, 3213885440, 3213361152, 3212836864, 3211788288, 3210739712,
  3209691136, 3208642560, 3207593984, 3206545408, 3205496832, 3204448256, 3202351104, 3200253952, 3198156800, 3196059648, 3191865344, 3187671040,
  3179282432, 0, 1031798784, 1040187392, 1044381696, 1048576000, 1050673152, 1052770304, 1054867456, 1056964608, 1058013184, 1059061760,
  1060110336, 1061158912, 1062207488, 1063256064, 1064304640, 1065353216, 1065877504, 1066401792, 1066926080, 1067450368, 1067974656, 1068498944,
  1069023232, 1069547520, 1070071808, 1070596096, 1071120384, 1071644672, 1072168960, 1072693248, 1073217536, 1073741824, 1074003968, 1074266112,
  1074528256, 1074790400, 1075052544, 1075314688, 1075576832, 1075838976, 1076101120, 1076363264, 1076625408, 1076887552, 1077149696, 1077411840,
  1077673984, 1077936128, 1078198272, 1078460416, 1078722560, 1078984704, 1079246848, 1079508992, 1079771136, 1080033280, 1080295424, 1080557568,
  1080819712, 1081081856, 1081344000, 1081606144, 1081868288, 1082130432]
def plW (i : Nat) : Nat := plL.getD i 0
set_option maxRecDepth 100000 in
theorem pl_tab7 : ∀ i : Nat, i < 129 → opO .quo .f32 (some (fI ((i : Int) - 64))) (some 1088421888) = some (plW i) := by decide +kernel
set_option maxRecDepth 100000 in
theorem pl_tab16 : ∀ i : Nat, i < 129 → opO .quo .f32 (some (fI ((i : Int) - 64))) (some 1098907648) = some (plW (129 + i)) := by decide +kernel
set_option maxRecDepth 100000 in
theorem pl_small : ∀ i < 258, plW i < 4294967296 ∧ plW i % 2147483648 ≤ 1091999999 := by decide +kernel
/-- a number that is plain -/
def Pl (X : O) : Prop := ∃ i, i < 258 ∧ X = some (plW i)
theorem pl_fv {i : Nat} (h : i < 258) : Hid (Fv .f32 (plW i) (some (plW i))) := by
  obtain ⟨h1, h2⟩ := pl_small i h
  exact fvc h1 (by omega)
set_option maxHeartbeats 4000000 in
set_option maxRecDepth 100000 in
theorem plainW_any (B b K : Nat) (w : World) (h : Src B b K w) (hK : K ≤ 900000) :
    Calls Try.prog 23 #[.pointer (some ⟨b, 0, none⟩)] w fun e w' => ∃ q Q, e = .returned (.float .f32 q) ∧ Hid (Fv .f32 q Q) ∧ Hid (Pl Q) ∧ Src B b (K + 4) w' ∧ On b w w' := by
  have HH := Lib.hid h; clear h
  go_enter Try.func23, Try.ntmps23
  go_wp2_with fail
  refine (pick_any B b K 129 w HH.out (by omega) (by omega)).mono ?_
  rintro e w1 ⟨v1, rfl, a1, a2, s1, o1⟩
  have a3 := a2 (by omega)
  have S1 := Lib.hid s1; have O1 := Lib.hid o1; clear s1 o1 a2
  go_wp2_with fail
  refine (one_any B b (K + 2) 4 w1 S1.out (by omega) (by omega)).mono ?_
  rintro e w2 ⟨v2, rfl, s2, o2⟩
  have S2 := Lib.hid s2; have O2 := Lib.hid o2; clear s2 o2
  have q1 := fI_fv (v1 - 64)
  have q7 : Hid (Fv .f32 1088421888 (some 1088421888)) := fvc (by decide) (by decide)
  have q16 : Hid (Fv .f32 1098907648 (some 1098907648)) := fvc (by decide) (by decide)
  obtain ⟨i, hi⟩ := Int.eq_ofNat_of_zero_le a1
  have T7 : Hid (Pl (opO .quo .f32 (some (fI (v1 - 64))) (some 1088421888))) := Lib.hid ⟨i, by omega, by rw [hi]; exact pl_tab7 i (by omega)⟩
  have T16 : Hid (Pl (opO .quo .f32 (some (fI (v1 - 64))) (some 1098907648))) := Lib.hid ⟨129 + i, by omega, by rw [hi]; exact pl_tab16 i (by omega)⟩
  clear hi
  cases v2
  all_goals
    go_wp2_with (with_reducible_and_instances refine Lo.wpList_fo _ rfl _ _ _ _ _ rfl _ _ _ _ _ rfl rfl rfl (by assumption) (by assumption) ?_; intro rr nn hrr)
    go_ret
    exact ⟨_, _, rfl, hrr, by assumption, S2.out.drewN _, (O1.out.trans O2.out).drewN _⟩
/-- a row of plain numbers -/
def PlA (lo : Nat) (w : World) (v : Value) (k : Nat) : Prop := (∃ F, Rw lo w v k F ∧ ∀ j, j < k → Pl (F j)) ∧ ∃ g c, v = .slice (some ⟨g, 0, none⟩) k c
theorem PlA.grown {lo : Nat} {w : World} {v : Value} {k : Nat} {F : Nat → O} (h : Rw lo w v (k + 1) F) (hp : ∀ j, j < k + 1 → Pl (F j)) : PlA lo w v (k + 1) := by
  refine ⟨⟨F, h, hp⟩, ?_⟩
  obtain ⟨A, c, xs, rfl, _, hn, hs, _⟩ := h.fin
  cases A with
  | none => exact absurd (hn rfl).1 (by omega)
  | some a =>
    obtain ⟨g, rfl, _⟩ := hs a rfl
    exact ⟨g, c, rfl⟩
theorem PlA.end_ {lo : Nat} {w : World} {v : Value} {k : Nat} (h : PlA lo w v k) : ∃ g c xs, v = .slice (some ⟨g, 0, none⟩) k c ∧ k ≤ c ∧ Gs 26 w lo (some ⟨g, 0, none⟩) k xs ∧ ∀ j, j < k → Pl (ab .f32 (wd xs j)) := by
  obtain ⟨⟨F, hF, hp⟩, g, c, rfl⟩ := h
  obtain ⟨A, c', xs, e, hc, _, _, hg, hf⟩ := hF.fin
  injection e with e1 e2 e3
  subst e1; subst e3
  exact ⟨g, c, xs, rfl, hc, hg, fun j hj => by rw [hf j hj]; exact hp j hj⟩
theorem PlA.pick {lo : Nat} {w : World} {v : Value} {k : Nat} {Q : O} (h : PlA lo w v k) (hq : Pl Q) : ∃ F, Rw lo w v k F ∧ F k = Q ∧ ∀ j, j < k + 1 → Pl (F j) := by
  obtain ⟨⟨F, hF, hp⟩, _⟩ := h
  exact ⟨fun j => if j = k then Q else F j, hF.like fun j hj => by simp [show j ≠ k by omega], by simp, fun j hj => by
    by_cases e : j = k
    · simp only [e, if_true]; exact hq
    · simp only [e, if_false]; exact hp j (by omega)⟩
theorem PlA.on {lo g : Nat} {w w' : World} {v : Value} {k : Nat} (h : PlA lo w v k) (o : On g w w') (hg : g < lo) : PlA lo w' v k := by
  obtain ⟨⟨F, hF, hp⟩, hv⟩ := h
  exact ⟨⟨F, hF.on o hg, hp⟩, hv⟩
/-- plain numbers that a call has drawn: a list in memory of its own -/
def PPl (n : Nat) (w : World) (e : Ending) (w' : World) : Prop := ∃ (g c : Nat) (xs : List Nat), e = .returned (.slice (some ⟨g, 0, none⟩) n c) ∧ n ≤ c ∧ Gs 26 w' w.heap.size (some ⟨g, 0, none⟩) n xs ∧ Hid (∀ j, j < n → Pl (ab .f32 (wd xs j))) ∧ w.Since w.heap.size w'
set_option maxHeartbeats 4000000 in
set_option maxRecDepth 100000 in
theorem plainsW_any (A : Option Addr) (n c : Nat) (xs : List Int) (m : Nat) (w : World) (h : Bs w w.heap.size A n xs) (hn : n ≤ 1048576) (hm : m ≤ 9000) :
    Calls Try.prog 10 #[.slice A n c, .int .i64 (m : Int)] w (PPl m w) := by
  have HH := Lib.hid h; clear h
  go_enter Try.func10, Try.ntmps10
  go_wp2_with fail
  refine (source_any A n c xs w HH.out hn).mono ?_
  rintro e w1 ⟨rfl, s1, t1⟩
  have S1 := Lib.hid s1; have T1 := Lib.hid t1; clear s1 t1
  go_wp2_with fail
  generalize hW : World.alloc _ _ = W
  have z1 := T1.out.size
  have R2 : Hid (PlA w1.heap.size W (.slice (some ⟨w1.heap.size, 0, none⟩) 0 0) 0) := Lib.hid (by rw [← hW]; exact ⟨⟨fun _ => none, Rw.start w1 _ (Nat.le_refl _) _, fun j hj => by omega⟩, _, _, rfl⟩)
  have S2 : Hid (Src w.heap.size w.heap.size 0 W) := Lib.hid (S1.out.on (by rw [← hW]; exact (World.Since.refl _ _).alloc (by have := S1.out.lt; omega) _))
  have O2 : Hid (On w.heap.size w1 W) := Lib.hid (by rw [← hW]; exact (On.refl _ _).alloc z1 _)
  have hl1 : w.heap.size < w1.heap.size := S1.out.lt
  clear hW
  go_loopw [6, 7] (fun v i wr => ∃ k : Nat, k ≤ m ∧ i = .int .i64 (k : Int) ∧ PlA w1.heap.size wr v k ∧ Src w.heap.size w.heap.size (4 * k) wr ∧ On w.heap.size w1 wr) (fun _ i _ => m - (intOf i).toNat)
  case atStart => exact ⟨0, Nat.zero_le _, rfl, R2.out, S2.out, O2.out⟩
  case round =>
    obtain ⟨k, hk, rfl, hr, hs, ho⟩ := hrel
    have HR := Lib.hid hr; have HS := Lib.hid hs; have HO := Lib.hid ho
    clear hr hs ho
    by_cases hlt2 : k < m
    · go_wp2_with fail
      refine (plainW_any w.heap.size w.heap.size (4 * k) wr HS.out (by omega)).mono ?_
      rintro e w3 ⟨q, Q, rfl, hq, hpl, s3, o3⟩
      have S3 : Hid (Src w.heap.size w.heap.size (4 * (k + 1)) w3) := Lib.hid (s3.up (by omega))
      have O3 := Lib.hid (HO.out.trans o3); have R3 := Lib.hid (HR.out.on o3 hl1)
      clear s3 o3
      obtain ⟨F, hF, hFk, hFp⟩ := R3.out.pick hpl.out
      have hlo : w1.heap.size ≤ w3.heap.size := O3.out.1.size
      have HF := Lib.hid hF; have HP := Lib.hid hFp; clear hF hFp
      have hz : Hid (Fv .f32 q (F k)) := by rw [hFk]; exact hq
      go_wp2_with (at_builtin; refine wpList_app1 rfl (.tmp 16) (.tmp 19) rfl w1.heap.size _ k _ rfl _ _ rfl (by simp [go_sem]) (by omega) (by simp; omega) hz (HF.out.alloc _) ?_; intro v' w4 hR4 hS4)
      have hs4 : w3.Since w1.heap.size w4 := ((World.Since.refl _ _).alloc hlo _).trans hS4.out
      have HS4 := Lib.hid hs4; clear hs4
      go_roundw
      case rel => exact ⟨k + 1, by omega, by go_num, PlA.grown hR4.out HP.out, S3.out.on (since_mono HS4.out (by omega)), on_post O3.out HS4.out (Nat.le_refl _) hl1⟩
      case measure => simp [intOf]; omega
    · obtain rfl : k = m := by omega
      obtain ⟨g, cp, zs, rfl, hcp, hg, hpp⟩ := HR.out.end_
      have HG := Lib.hid (hg.less z1); have HPP := Lib.hid hpp; clear hg hpp
      have T3 : Hid (w.Since w.heap.size wr) := Lib.hid (T1.out.trans (HO.out.since (Nat.le_refl _)))
      go_wp2
      go_ret
      exact ⟨g, cp, zs, rfl, hcp, HG.out, HPP, T3.out⟩
end Go.Proofs.Ytfgebggfoboalaa

/- Levels and gains of small samples: a level is at most the next number behind the greatest size, a gain at most 1. -/
set_option linter.unusedVariables false
set_option linter.unusedSimpArgs false
namespace Go.Proofs.Ytfgebggfoboalaa
namespace Fl
open Ieee
/-- a number that is not negative, and at most c -/
structure Nn (c b : Nat) : Prop where
  lt : b < 4294967296
  fin : Fin .f32 b
  sgn : sgn .f32 b = false
  le : rung .f32 b ≤ c
theorem ir_f32 : FloatKind.f32.format.infRung = 2139095040 := by decide
theorem zv_one : zv .f32 1065353216 = 2 ^ 149 := by decide +kernel
theorem sv_nn {c b : Nat} (h : Nn c b) : sv .f32 b = (zv .f32 (rung .f32 b) : Int) := by unfold sv sg; rw [h.sgn]; rfl
theorem zv_next {r m e : Nat} (hme : (r < FloatKind.f32.format.binade ∧ m = r ∧ e = 0) ∨ (¬ r < FloatKind.f32.format.binade ∧ m = FloatKind.f32.format.binade + r % FloatKind.f32.format.binade ∧ e = r / FloatKind.f32.format.binade - 1)) : zv .f32 (r + 1) = (m + 1) * 2 ^ e := by
  have hb : FloatKind.f32.format.binade = 8388608 := by decide
  unfold zv
  rw [hb] at hme ⊢
  rcases hme with ⟨h, rfl, rfl⟩ | ⟨h, rfl, rfl⟩
  · by_cases h1 : m + 1 < 8388608
    · rw [if_pos h1]; simp
    · have : m + 1 = 8388608 := by omega
      rw [if_neg h1, this]
  · rw [if_neg (by omega)]
    by_cases h1 : r % 8388608 + 1 < 8388608
    · rw [show (r + 1) % 8388608 = r % 8388608 + 1 by omega, show (r + 1) / 8388608 = r / 8388608 by omega]
      congr 1
    · rw [show (r + 1) % 8388608 = 0 by omega, show (r + 1) / 8388608 = r / 8388608 + 1 by omega, show r % 8388608 = 8388607 by omega]
      obtain ⟨q, hq⟩ : ∃ q, r / 8388608 = q + 1 := ⟨r / 8388608 - 1, by omega⟩
      rw [hq, show q + 1 + 1 - 1 = q + 1 by omega, show q + 1 - 1 = q by omega, Nat.pow_succ]
      generalize 2 ^ q = p
      omega
/-- the exponent of a number -/
theorem form_e {r m e C E : Nat} (hme : (r < FloatKind.f32.format.binade ∧ m = r ∧ e = 0) ∨ (¬ r < FloatKind.f32.format.binade ∧ m = FloatKind.f32.format.binade + r % FloatKind.f32.format.binade ∧ e = r / FloatKind.f32.format.binade - 1)) (hr : r < C) (hE : C ≤ (E + 2) * 8388608) : e ≤ E := by
  have hb : FloatKind.f32.format.binade = 8388608 := by decide
  rw [hb] at hme
  rcases hme with ⟨h, rfl, rfl⟩ | ⟨h, rfl, rfl⟩
  · omega
  · omega
theorem ceil_mul {t m E : Nat} (hE : 0 < E) (h : t ≤ m * E) : ∃ j, j ≤ m ∧ t ≤ j * E ∧ j * E ≤ t + E := by
  refine ⟨(t + E - 1) / E, ?_, ?_, ?_⟩
  · refine Nat.le_of_lt_succ ((Nat.div_lt_iff_lt_mul hE).2 ?_)
    rw [Nat.succ_mul]; omega
  · have := Nat.div_add_mod (t + E - 1) E
    have h2 := Nat.mod_lt (t + E - 1) hE
    rw [Nat.mul_comm] at this
    omega
  · have := Nat.div_mul_le_self (t + E - 1) E
    omega
theorem fin_abK {k : FloatKind} {b : Nat} (h : Fin k b) : ab k b = some b := by
  unfold ab
  unfold Fin rung at h
  rw [if_neg (by omega)]
theorem opw_lt {op : BinOp} (hop : isF op = true) {x y q : Nat} (hx : x < 4294967296) (hy : y < 4294967296) (fx : Fin .f32 x) (fy : Fin .f32 y) (h : floatBits op .f32 x y = some q) : q < 4294967296 := by
  obtain ⟨r, hr⟩ := Lo.fv_ex (op := op) hop .f32 _ _ _ _ ⟨hx, fin_abK fx⟩ ⟨hy, fin_abK fy⟩
  rw [show opO op .f32 (some x) (some y) = some q from h] at hr
  rw [ab_some hr.2]; exact hr.1
/-- a difference of two numbers, rounded: at most one unit of the greater more -/
theorem sub_up {c b s l : Nat} (hs : Nn c s) (hl : Nn b l) (h : rung .f32 l ≤ rung .f32 s) :
    ∃ d, floatBits .sub .f32 s l = some d ∧ Nn (rung .f32 s) d ∧ zv .f32 (rung .f32 d) + zv .f32 (rung .f32 l) ≤ zv .f32 (rung .f32 s + 1) := by
  obtain ⟨d, hd, hR, h0⟩ := sub_val .f32 hs.fin hl.fin
  rw [sv_nn hs, sv_nn hl] at hR h0
  have hle := (zv_le .f32).2 h
  have hab : ((zv .f32 (rung .f32 s) : Int) - (zv .f32 (rung .f32 l) : Int)).natAbs = zv .f32 (rung .f32 s) - zv .f32 (rung .f32 l) := by omega
  have hrle : rung .f32 d ≤ rung .f32 s := hR.le _ hs.fin (by rw [hab]; omega)
  refine ⟨d, hd, ⟨opw_lt rfl hs.lt hl.lt hs.fin hl.fin hd, Nat.lt_of_le_of_lt hrle hs.fin, ?_, hrle⟩, ?_⟩
  · by_cases hv : (zv .f32 (rung .f32 s) : Int) - (zv .f32 (rung .f32 l) : Int) = 0
    · rw [h0 hv, hs.sgn]; rfl
    · rw [hR.sgn hv]; exact decide_eq_false (by omega)
  · obtain ⟨m, e, hz, hform, hm⟩ := rung_form .f32 (rung .f32 s)
    have he := form_e (E := 253) hform hs.fin (by rw [ir_f32]; decide)
    obtain ⟨j, j1, j2, j3⟩ := ceil_mul (t := zv .f32 (rung .f32 s) - zv .f32 (rung .f32 l)) (m := m) (E := 2 ^ e) (Nat.two_pow_pos e) (by rw [hz]; omega)
    obtain ⟨r, hr, hzr⟩ := rep .f32 (m := j) (e := e) (Nat.lt_of_le_of_lt j1 hm) (by
      rw [ir_f32, show FloatKind.f32.format.binade = 8388608 from by decide]; omega)
    have h4 := (zv_le .f32).2 (hR.le r hr (by rw [hab, hzr]; exact j2))
    rw [zv_next hform, Nat.succ_mul, ← hz]
    rw [hzr] at h4
    omega
/-- one step of a level, upwards -/
theorem up_step {c a l s : Nat} (ha : Nn 1065353216 a) (hl : Nn c l) (hs : Nn c s) (hc : rung .f32 s + 1 ≤ c) (hf : c < 2139095040) (h : rung .f32 l ≤ rung .f32 s) :
    ∃ d e q, floatBits .sub .f32 s l = some d ∧ floatBits .mul .f32 a d = some e ∧ floatBits .add .f32 l e = some q ∧ Nn c q := by
  obtain ⟨d, hd, nd, hv⟩ := sub_up hs hl h
  obtain ⟨e, he, se, le1, _⟩ := mul_val .f32 ha.fin nd.fin 149 (by decide)
  have hee : rung .f32 e ≤ rung .f32 d := le1 _ nd.fin (by
    rw [Nat.mul_comm]
    refine Nat.mul_le_mul_left _ ?_
    rw [← zv_one]
    exact (zv_le .f32).2 ha.le)
  have ne : Nn (rung .f32 d) e := ⟨opw_lt rfl ha.lt nd.lt ha.fin nd.fin he, Nat.lt_of_le_of_lt hee nd.fin, by rw [se, ha.sgn, nd.sgn]; rfl, hee⟩
  obtain ⟨q, hq, hR, h0⟩ := add_val .f32 hl.fin ne.fin
  rw [sv_nn hl, sv_nn ne] at hR h0
  have z1 := (zv_le .f32).2 hee
  have z2 := (zv_le .f32).2 hc
  have hfc : c < FloatKind.f32.format.infRung := by rw [ir_f32]; exact hf
  have hqc : rung .f32 q ≤ c := hR.le c hfc (by omega)
  refine ⟨d, e, q, hd, he, hq, opw_lt rfl hl.lt ne.lt hl.fin ne.fin hq, Nat.lt_of_le_of_lt hqc hfc, ?_, hqc⟩
  by_cases hv : (zv .f32 (rung .f32 l) : Int) + (zv .f32 (rung .f32 e) : Int) = 0
  · rw [h0 hv, hl.sgn]; rfl
  · rw [hR.sgn hv]; exact decide_eq_false (by omega)
/-- one step of a level, downwards -/
theorem down_step {c a l s : Nat} (ha : Nn 1065353216 a) (hl : Nn c l) (hs : Nn c s) (h : rung .f32 s < rung .f32 l) :
    ∃ d e q, floatBits .sub .f32 s l = some d ∧ floatBits .mul .f32 a d = some e ∧ floatBits .add .f32 l e = some q ∧ Nn c q := by
  obtain ⟨d, hd, hR, _⟩ := sub_val .f32 hs.fin hl.fin
  rw [sv_nn hs, sv_nn hl] at hR
  have hlt := (zv_lt .f32).2 h
  have hdl : rung .f32 d ≤ rung .f32 l := hR.le _ hl.fin (by omega)
  have fd : Fin .f32 d := Nat.lt_of_le_of_lt hdl hl.fin
  have sd : sgn .f32 d = true := by rw [hR.sgn (by omega)]; exact decide_eq_true (by omega)
  obtain ⟨e, he, se, le1, _⟩ := mul_val .f32 ha.fin fd 149 (by decide)
  have hee : rung .f32 e ≤ rung .f32 d := le1 _ fd (by
    rw [Nat.mul_comm]
    refine Nat.mul_le_mul_left _ ?_
    rw [← zv_one]
    exact (zv_le .f32).2 ha.le)
  have fe : Fin .f32 e := Nat.lt_of_le_of_lt hee fd
  have hse : sgn .f32 e = true := by rw [se, ha.sgn, sd]; rfl
  have ve : sv .f32 e = -(zv .f32 (rung .f32 e) : Int) := by unfold sv sg; rw [hse]; rfl
  obtain ⟨q, hq, hR2, h02⟩ := add_val .f32 hl.fin fe
  rw [sv_nn hl, ve] at hR2 h02
  have z1 := (zv_le .f32).2 (Nat.le_trans hee hdl)
  have hql : rung .f32 q ≤ rung .f32 l := hR2.le _ hl.fin (by omega)
  have ld := opw_lt rfl hs.lt hl.lt hs.fin hl.fin hd
  have le_ := opw_lt rfl ha.lt ld ha.fin fd he
  refine ⟨d, e, q, hd, he, hq, opw_lt rfl hl.lt le_ hl.fin fe hq, Nat.lt_of_le_of_lt hql hl.fin, ?_, Nat.le_trans hql hl.le⟩
  by_cases hv : (zv .f32 (rung .f32 l) : Int) + -(zv .f32 (rung .f32 e) : Int) = 0
  · rw [h02 hv, hl.sgn]; rfl
  · rw [hR2.sgn hv]; exact decide_eq_false (by omega)
end Fl
open Fl Go.RowKit Ieee
theorem nn_flush {c b : Nat} (h : Nn c b) : Nn c (flushN b) := by
  obtain ⟨h0, h1, h2, h3⟩ := h
  unfold flushN
  split
  · next hlt =>
    unfold Fl.Fin at h1
    rw [rung32, ir_f32] at h1
    rw [rung32] at h3
    have e : b / 2147483648 * 2147483648 = 0 := by
      unfold sgn at h2
      have hs : FloatKind.f32.format.signWeight = 2147483648 := by decide
      rw [hs] at h2
      have : b / 2147483648 % 2 ≠ 1 := by intro h; rw [h] at h2; exact absurd h2 (by decide)
      omega
    rw [e]
    exact ⟨by decide, by show rung .f32 0 < _; decide, by decide, by rw [rung32]; omega⟩
  · exact ⟨h0, h1, h2, h3⟩
theorem flush_rung {b : Nat} (hb : b < 4294967296) : rung .f32 (flushN b) = 0 ∨ 8388608 ≤ rung .f32 (flushN b) := by
  rw [rung32]
  unfold flushN
  split
  · left; omega
  · right; omega
theorem nn_gt {c d x y : Nat} (hx : Nn c x) (hy : Nn d y) : gtO (some x) (some y) = decide (rung .f32 y < rung .f32 x) := by
  unfold gtO
  show (FloatKind.f32.format.order x y == some .gt) = _
  rw [order_key .f32 (fin_abK hx.fin) (fin_abK hy.fin)]
  unfold key
  rw [hx.sgn, hy.sgn]
  show (some (compare (rung .f32 x : Int) (rung .f32 y : Int)) == some .gt) = _
  rw [cmp_def]
  by_cases h1 : (rung .f32 x : Int) < (rung .f32 y : Int)
  · rw [if_pos h1, decide_eq_false (by omega)]; rfl
  · rw [if_neg h1]
    by_cases h2 : (rung .f32 x : Int) = (rung .f32 y : Int)
    · rw [if_pos h2, decide_eq_false (by omega)]; rfl
    · rw [if_neg h2, decide_eq_true (by omega)]; rfl
/-- a level stays from 0 to c -/
theorem lev_step {c a r l s : Nat} {X : O} (ha : Nn 1065353216 a) (hr : Nn 1065353216 r) (hl : Nn c l) (hs : Nn c s) (hX : sizeO X = some s) (hc : rung .f32 s + 1 ≤ c) (hf : c < 2139095040) :
    ∃ q, folO (some a) (some r) (some l) X = some q ∧ Nn c q ∧ (rung .f32 q = 0 ∨ 8388608 ≤ rung .f32 q) := by
  unfold folO
  rw [hX, nn_gt hs hl]
  by_cases h : rung .f32 l < rung .f32 s
  · rw [decide_eq_true h]
    obtain ⟨d, e, q, h1, h2, h3, hq⟩ := up_step ha hl hs hc hf (Nat.le_of_lt h)
    refine ⟨flushN q, ?_, nn_flush hq, flush_rung hq.lt⟩
    show (opO .add .f32 (some l) (opO .mul .f32 (some a) (opO .sub .f32 (some s) (some l)))).map flushN = _
    rw [show opO .sub .f32 (some s) (some l) = some d from h1, show opO .mul .f32 (some a) (some d) = some e from h2, show opO .add .f32 (some l) (some e) = some q from h3]
    rfl
  · rw [decide_eq_false h]
    obtain ⟨d, e, q, h1, h2, h3, hq⟩ : ∃ d e q, floatBits .sub .f32 s l = some d ∧ floatBits .mul .f32 r d = some e ∧ floatBits .add .f32 l e = some q ∧ Nn c q := by
      rcases Nat.lt_or_ge (rung .f32 s) (rung .f32 l) with h4 | h4
      · exact down_step hr hl hs h4
      · exact up_step hr hl hs hc hf h4
    refine ⟨flushN q, ?_, nn_flush hq, flush_rung hq.lt⟩
    show (opO .add .f32 (some l) (opO .mul .f32 (some r) (opO .sub .f32 (some s) (some l)))).map flushN = _
    rw [show opO .sub .f32 (some s) (some l) = some d from h1, show opO .mul .f32 (some r) (some d) = some e from h2, show opO .add .f32 (some l) (some e) = some q from h3]
    rfl
/-- all levels of numbers whose sizes are less than c -/
theorem lev_all {c a r : Nat} {X : Nat → O} {n : Nat} (ha : Nn 1065353216 a) (hr : Nn 1065353216 r) (hX : ∀ j, j < n → ∃ s, sizeO (X j) = some s ∧ Nn c s ∧ rung .f32 s + 1 ≤ c) (hf : c < 2139095040) :
    ∀ k, k ≤ n → ∃ q, levO ⟨some a, some r, some 0⟩ X k = some q ∧ Nn c q ∧ (rung .f32 q = 0 ∨ 8388608 ≤ rung .f32 q)
  | 0, _ => ⟨0, rfl, ⟨by decide, by show rung .f32 0 < _; decide, by decide, by rw [rung32]; omega⟩, .inl (by decide)⟩
  | k + 1, hk => by
    obtain ⟨l, hl, nl, _⟩ := lev_all ha hr hX hf k (by omega)
    obtain ⟨s, h1, h2, h3⟩ := hX k (by omega)
    show ∃ q, folO (some a) (some r) (levO ⟨some a, some r, some 0⟩ X k) (X k) = some q ∧ _
    rw [hl]
    exact lev_step ha hr nl h2 h1 h3 hf
/-- a plain number's size -/
theorem pl_size {X : O} (h : Pl X) : ∃ s, sizeO X = some s ∧ Nn 1092000000 s ∧ rung .f32 s + 1 ≤ 1092000000 := by
  obtain ⟨i, hi, rfl⟩ := h
  obtain ⟨h1, h2⟩ := pl_small i hi
  refine ⟨plW i % 2147483648, rfl, ⟨by omega, ?_, ?_, ?_⟩, ?_⟩
  · show rung .f32 _ < _
    rw [rung32, ir_f32]; omega
  · unfold sgn
    have hs : FloatKind.f32.format.signWeight = 2147483648 := by decide
    rw [hs, show plW i % 2147483648 / 2147483648 = 0 by omega]; rfl
  · rw [rung32]; omega
  · rw [rung32]; omega
end Go.Proofs.Ytfgebggfoboalaa

/- Loose regions whose callees make memory: worlds that grow. -/
set_option linter.unusedVariables false
set_option linter.unusedSimpArgs false
namespace Go.Proofs.Ytfgebggfoboalaa
namespace Lo
open Fl Ieee
/-- a world with more blocks behind, and some draws -/
def mkW (w : World) (hs : Array Obj) (d : Nat) : World := { w with heap := w.heap ++ hs, drawn := d }
@[go_sem] theorem mkW_drewN (w : World) (hs : Array Obj) (d m : Nat) : (mkW w hs d).drewN m = mkW w hs (d + m) := rfl
theorem mkW_self (w : World) (d : Nat) : { w with drawn := d } = mkW w #[] d := by simp [mkW]
theorem mkW_since (w : World) (hs : Array Obj) (d : Nat) : w.Since w.heap.size (mkW w hs d) :=
  ⟨rfl, rfl, rfl, by simp [mkW], fun k hk => by simp [mkW, Array.getElem?_append_left hk]⟩
theorem sinceG {w v : World} {hs : Array Obj} {d : Nat} (h : mkW w hs d = v) : w.Since w.heap.size v := h ▸ mkW_since w hs d
theorem mkW_of {w v : World} (h : w.Since w.heap.size v) : ∃ hs d, v = mkW w hs d := by
  refine ⟨v.heap.extract w.heap.size v.heap.size, v.drawn, ?_⟩
  obtain ⟨h1, h2, h3, h4, h5⟩ := h
  obtain ⟨vh, vt, vd, vo, vp⟩ := v
  simp only at h1 h2 h3 h4 h5
  unfold mkW
  simp only [h1, h2, h3, World.mk.injEq, and_true, true_and]
  apply Array.ext_getElem?
  intro i
  by_cases hi : i < w.heap.size
  · rw [Array.getElem?_append_left hi, h5 i hi]
  · rw [Array.getElem?_append_right (by omega), Array.getElem?_extract]
    by_cases hj : i < vh.size
    · rw [if_pos (by omega)]; congr 1; omega
    · rw [if_neg (by omega), Array.getElem?_eq_none (by omega)]
theorem mkW_mkW {w v v2 : World} (h : ∃ hs d, v = mkW w hs d) (h2 : v.Since v.heap.size v2) : ∃ hs d, v2 = mkW w hs d := by
  obtain ⟨hs, d, rfl⟩ := h
  exact mkW_of (since_step (mkW_since w hs d) h2)
theorem cell_mkW {w : World} {hs : Array Obj} {d b o : Nat} (hb : b < w.heap.size) : (mkW w hs d).cell? ⟨b, o, none⟩ = w.cell? ⟨b, o, none⟩ := (mkW_since w hs d).cell (a := ⟨b, o, none⟩) hb
def VRs : List Value → List Value → Prop
  | [], us => us = []
  | v :: vs, us => ∃ u us', us = u :: us' ∧ VR v u ∧ VRs vs us'
theorem VR_int {k : IntKind} {n : Int} {u : Value} (h : VR (.int k n) u) : u = .int k n := by
  rcases h with rfl | ⟨_, _, _, e, _⟩
  · rfl
  · cases e
theorem VR_bool {n : Bool} {u : Value} (h : VR (.bool n) u) : u = .bool n := by
  rcases h with rfl | ⟨_, _, _, e, _⟩
  · rfl
  · cases e
theorem VR_ptr {n : Option Addr} {u : Value} (h : VR (.pointer n) u) : u = .pointer n := by
  rcases h with rfl | ⟨_, _, _, e, _⟩
  · rfl
  · cases e
theorem VR_agg {n : Array Value} {u : Value} (h : VR (.agg n) u) : u = .agg n := by
  rcases h with rfl | ⟨_, _, _, e, _⟩
  · rfl
  · cases e
section
variable {P : Program} {ops : Array Oper} {rest : List Oper} {o : Oper} {a : Act} {Q : Act → Prop} {ds : List Nat}
theorem wp_looseG_tail {P : Program} {id : Nat} {Q : Exit → Act → World → Prop} {a : Act} {w : World} {l : List Oper} (ds : List Nat) (n : Nat) (hm : P.follows .mixedOrders = true) (hB : Region.lexTailB .any l.toArray n = true)
    (h : wpL P l.toArray (fun v => ∃ hs d, v = mkW w hs d) (fun i => ds.contains i) (fun a2 => ∀ hs d, After ds a2 fun b _ => wpList P l.toArray Q (l.drop n) b (mkW w hs d)) (l.take n) a) : (Code.region id l.toArray true).wp P Q a w := by
  simp only [Region.lexTailB, Bool.and_eq_true, decide_eq_true_eq] at hB
  obtain ⟨⟨⟨⟨hsel, hn⟩, hs⟩, hc⟩, hlex⟩ := hB
  have hn2 : n < l.length := by simpa using hn
  have htl : (l.take n).length = n := by simp; omega
  have hdl : (l.drop n).length = l.toArray.size - n := by simp
  have inv0 : HeadInv .any l.toArray n (Array.replicate l.toArray.size false) :=
    ⟨by simp, fun j oj _ hl => (by rw [getD_replicate_false] at hl; cases hl), fun t _ ht => getD_in (by simpa using ht) (getD_replicate_false _ _)⟩
  have H := anyM_text (md := .any) (g := l.toArray.size - n) hsel hs hc hn (l.take n) 0 _ a (fun j hj => by
    have hj2 : j < n := by rw [htl] at hj; exact hj
    simp [hj2]) (by simpa using htl) inv0 (by rw [htl]; exact hlex) h
  refine wp_region_any hm ?_
  have := wpAny_of_anyM (Q2 := Q) (g := l.toArray.size - n) (fun listed a2 b w2 hw hab hL => by
    obtain ⟨hs2, d2, rfl⟩ := hw
    have := wpAny_of_seq (md := .any) (Q' := Q) (l.drop n) n listed b (mkW w hs2 d2) (fun j => by simp [List.getElem?_drop]) (by rw [hdl]; exact hL.1) (hL.2 hs2 d2 b hab 0)
    rwa [hdl] at this) _ _ a a { w with drawn := w.drawn + 1 } ⟨#[], _, mkW_self w _⟩ (AR.refl _ _) H
  rw [htl, show n + (l.toArray.size - n) = l.toArray.size by omega] at this
  exact this
theorem wp_looseG_all {P : Program} {id : Nat} {Q : Exit → Act → World → Prop} {a : Act} {w : World} {l : List Oper} (ds : List Nat) (hm : P.follows .mixedOrders = true) (hB : Region.lexB .any l.toArray = true)
    (h : wpL P l.toArray (fun v => ∃ hs d, v = mkW w hs d) (fun i => ds.contains i) (fun a2 => ∀ hs d, After ds a2 fun b _ => Q .normal b (mkW w hs d)) l a) : (Code.region id l.toArray true).wp P Q a w := by
  simp only [Region.lexB, Bool.and_eq_true] at hB
  refine wp_region_any hm (wpAny_of_anyL (C := fun v => ∃ hs d, v = mkW w hs d) (D := fun i => ds.contains i) (Q := fun a2 => ∀ hs d, After ds a2 fun b _ => Q .normal b (mkW w hs d))
    (fun a b w2 hw hab hq => by obtain ⟨hs, d, rfl⟩ := hw; exact hq hs d b hab 0) _ _ a a _ ⟨#[], _, mkW_self w _⟩ (AR.refl _ _) ?_)
  have := anyL_text (P := P) (C := fun v => ∃ hs d, v = mkW w hs d) (D := fun i => ds.contains i) (md := .any) hB.1 l 0 (Array.replicate l.length false) a (by simp) (by simpa using hB.2) h
  simpa using this
theorem wpG_fop {C : World → Prop} (hC : ∀ v m, C v → C (v.drewN m)) {op : BinOp} (hg : o.guard = none) (t t2 : TypeId) (x y : Operand) (hop : o.op = Op.binOp op t x y t2) (hf : isF op = true) (hd : ∀ d, o.dst = some d → ds.contains d = true) (k : FloatKind) (p q : Nat) (u v : Option Nat)
    (hx : a.eval x = .float k p) (hy : a.eval y = .float k q) (hp : RowKit.Hid (Fv k p u)) (hq : RowKit.Hid (Fv k q v))
    (hK : ∀ r, RowKit.Hid (Fv k r (opO op k u v)) → wpL P ops C (fun i => ds.contains i) Q rest (a.put o.dst (.float k r))) :
    wpL P ops C (fun i => ds.contains i) Q (o :: rest) a := by
  obtain ⟨r, hr⟩ := fv_ex hf k u v p q hp hq
  refine wpL_of_loose hg (fun b hab w2 hw => ?_) (hK r hr)
  obtain ⟨p2, e1, hp2⟩ := VR_fl hp (by rw [← hx]; exact eval_AR hab x)
  obtain ⟨q2, e2, hq2⟩ := VR_fl hq (by rw [← hy]; exact eval_AR hab y)
  have he : eqGuard op t x y (.float k p2) (.float k q2) = pure () := by
    rcases isF_of hf with rfl | rfl | rfl | rfl <;> rfl
  have e : (execOp b.eval o).run P w2 = .ok (.value (.float k (ov op k p2 q2 w2))) (w2.drewN (on op k p2 q2)) := by
    simp [execOp, hop, e1, e2, he, run_fopE (P := P) hf t k p2 q2 w2, Result.andThen]
  rw [e]
  have h2 := ov_fv hf k p2 q2 w2
  rw [hp2.2, hq2.2] at h2
  exact ⟨hC _ _ hw, .inr ⟨k, r, _, rfl, rfl, hr.1, h2.1, by rw [hr.2, h2.2]⟩, fun d hd2 hf2 => by have := hd d hd2; simp_all⟩
theorem drewG {w v : World} (m : Nat) (h : ∃ hs d, v = mkW w hs d) : ∃ hs d, v.drewN m = mkW w hs d := by
  obtain ⟨hs, d, rfl⟩ := h
  exact ⟨hs, d + m, rfl⟩
/-- a call of a Go function whose arguments the statement may have computed -/
theorem wpG_callV {C : World → Prop} (hg : o.guard = none) (f : FuncId) (xs : List Operand) (vs : List Value) (tys : Array TypeId) (hop : o.op = Op.call ⟨.value (.func f), xs.toArray, tys⟩) (hd : ∀ d, o.dst = some d → ds.contains d = true)
    (henter : ∀ args w2, (callFunc f args).run P w2 = .ok (.enter f args) w2)
    (k2 : FloatKind) (F : Option Nat) (hxs : xs.map a.eval = vs)
    (hc : ∀ us, VRs vs us → ∀ v, C v → Calls P f us.toArray v fun e v2 => ∃ r, e = .returned (.float k2 r) ∧ Fv k2 r F ∧ C v2)
    (hex : ∃ r, Fv k2 r F)
    (hK : ∀ r, RowKit.Hid (Fv k2 r F) → wpL P ops C (fun i => ds.contains i) Q rest (a.put o.dst (.float k2 r))) :
    wpL P ops C (fun i => ds.contains i) Q (o :: rest) a := by
  obtain ⟨r, hr⟩ := hex
  refine wpL_of_loose hg (fun b hab w2 hw => ?_) (hK r hr)
  have hus : VRs vs (xs.map b.eval) := by
    subst hxs
    clear hop hc
    induction xs with
    | nil => exact rfl
    | cons x xs ih => exact ⟨_, _, rfl, eval_AR hab x, ih⟩
  have e : (execOp b.eval o).run P w2 = .ok (.enter f (xs.map b.eval).toArray) w2 := by
    have ef : b.eval (.func f) = .func (.func f) #[] #[] := rfl
    simp [execOp, hop, resolve, ef, invoke, Deferred.ofValue, henter, Result.andThen]
  rw [e]
  exact ⟨hw, (hc _ hus w2 hw).mono fun e2 w3 ⟨r2, he, hr2, hw3⟩ => ⟨_, he, ⟨.inr ⟨k2, r, r2, rfl, rfl, hr.1, hr2.1, by rw [hr.2, hr2.2]⟩, fun d hd2 hf2 => by have := hd d hd2; simp_all⟩, hw3⟩⟩
theorem wpL_loadRow {C : World → Prop} (hg : o.guard = none) (ty : TypeId) (x : Operand) (hop : o.op = .load ty x) (ho : avoid ds o = true) (b off : Nat) (hx : a.eval x = .pointer (some ⟨b, off, none⟩)) (cs : List Value) (d : TypeDesc)
    (hu : P.underlying ty = some d) (hd : d.isRow = true) (hi : (P.info? ty).map (·.size) = some cs.length) (hS : ∀ v, C v → v.rangeAt b off cs)
    (hK : wpL P ops C (fun i => ds.contains i) Q rest (a.put o.dst (.agg cs.toArray))) : wpL P ops C (fun i => ds.contains i) Q (o :: rest) a := by
  refine wpL_of_loose hg (fun b' hab w hw => ?_) hK
  rw [eval_avoid hab ho]
  have e : (execOp a.eval o).run P w = .ok (.value (.agg cs.toArray)) w := by
    unfold execOp
    simp only [hop, hx, Instr.loadAt, Instr.sureAddr, Sem.run_bind, Sem.run_pure, Result.andThen_ok, run_loadVar_mid w b off ty cs d (hS w hw) hu hd hi]
  rw [e]
  exact ⟨hw, okv.refl ..⟩
theorem range_since {w v : World} {B b off : Nat} {cs : List Value} (h : w.rangeAt b off cs) (s : w.Since B v) (hb : b < B) : v.rangeAt b off cs := fun j x hj => (s.cell (a := ⟨b, off + j, none⟩) hb).trans (h j x hj)
/-- a call of known arguments that gives one value -/
theorem wpG_callQ {C : World → Prop} (hg : o.guard = none) (f : FuncId) (xs : List Operand) (vs : List Value) (tys : Array TypeId) (hop : o.op = Op.call ⟨.value (.func f), xs.toArray, tys⟩) (ho : avoid ds o = true)
    (henter : ∀ args w2, (callFunc f args).run P w2 = .ok (.enter f args) w2) (hxs : xs.map a.eval = vs) (val : Value)
    (hc : ∀ v, C v → Calls P f vs.toArray v fun e v2 => e = .returned val ∧ C v2)
    (hK : wpL P ops C (fun i => ds.contains i) Q rest (a.put o.dst val)) : wpL P ops C (fun i => ds.contains i) Q (o :: rest) a := by
  refine wpL_of_loose hg (fun b hab w2 hw => ?_) hK
  rw [eval_avoid hab ho]
  have e : (execOp a.eval o).run P w2 = .ok (.enter f vs.toArray) w2 := by
    have ef : a.eval (.func f) = .func (.func f) #[] #[] := rfl
    subst hxs
    simp [execOp, hop, resolve, ef, invoke, Deferred.ofValue, henter, Result.andThen]
  rw [e]
  exact ⟨hw, (hc w2 hw).mono fun e2 w3 ⟨he, hw3⟩ => ⟨_, he, okv.refl .., hw3⟩⟩
theorem wpL_load1 {C : World → Prop} (hg : o.guard = none) (ty : TypeId) (x : Operand) (hop : o.op = .load ty x) (ho : avoid ds o = true) (p : Addr) (hx : a.eval x = .pointer (some p)) (val : Value)
    (hS : ∀ v, C v → (loadVar ty p).run P v = .ok val v)
    (hK : wpL P ops C (fun i => ds.contains i) Q rest (a.put o.dst val)) : wpL P ops C (fun i => ds.contains i) Q (o :: rest) a := by
  refine wpL_of_loose hg (fun b' hab w hw => ?_) hK
  rw [eval_avoid hab ho]
  have e : (execOp a.eval o).run P w = .ok (.value val) w := by
    unfold execOp
    simp only [hop, hx, Instr.loadAt, Instr.sureAddr, Sem.run_bind, Sem.run_pure, Result.andThen_ok, hS w hw]
  rw [e]
  exact ⟨hw, okv.refl ..⟩
end
end Lo
end Go.Proofs.Ytfgebggfoboalaa

/- Lists of any one-cell kind that a law holds, apart from one another. -/
set_option linter.unusedVariables false
set_option linter.unusedSimpArgs false
namespace Go.Proofs.Ytfgebggfoboalaa
namespace Fl
/-- a list: its elements' type, where it lies, how many cells, its cells -/
structure Lx where
  T : TypeId
  A : Option Addr
  n : Nat
  f : Nat → Value
  ok : Prop
/-- it lies in a block of the law's own, from lo on -/
def Gx (w : World) (lo : Nat) (p : Lx) : Prop := p.ok ∧ (0 < p.n → ∃ g cs, p.A = some ⟨g, 0, none⟩ ∧ lo ≤ g ∧ w.heap[g]? = some (.cells cs p.T (0, 0)) ∧ ∀ k, k < p.n → cs[k]? = some (p.f k))
theorem Gx.since {w w' : World} {lo : Nat} {p : Lx} (h : Gx w lo p) (hs : w.Since w.heap.size w') : Gx w' lo p := ⟨h.1, fun hn => by
  obtain ⟨g, cs, e, hg, hb, hc⟩ := h.2 hn
  exact ⟨g, cs, e, hg, (hs.block g (Array.getElem?_eq_some_iff.1 hb).1).trans hb, hc⟩⟩
theorem Gx.less {w : World} {lo l : Nat} {p : Lx} (h : Gx w lo p) (hl : l ≤ lo) : Gx w l p := ⟨h.1, fun hn => by
  obtain ⟨g, cs, e, hg, hb, hc⟩ := h.2 hn
  exact ⟨g, cs, e, by omega, hb, hc⟩⟩
theorem Gx.block {w : World} {lo : Nat} {p : Lx} (h : Gx w lo p) (hn : 0 < p.n) : ∃ g, p.A = some ⟨g, 0, none⟩ ∧ lo ≤ g ∧ g < w.heap.size := by
  obtain ⟨g, cs, e, hg, hb, _⟩ := h.2 hn
  exact ⟨g, e, hg, (Array.getElem?_eq_some_iff.1 hb).1⟩
/-- lists of floats, of integers -/
def fx (A : Option Addr) (n : Nat) (xs : List Nat) : Lx := ⟨26, A, n, fv xs, xs.length = n ∧ Small xs⟩
def ix64 (A : Option Addr) (n : Nat) (xs : List Int) : Lx := ⟨2, A, n, iv xs, xs.length = n⟩
theorem Gs.toX {w : World} {lo n : Nat} {A : Option Addr} {xs : List Nat} (h : Gs 26 w lo A n xs) : Gx w lo (fx A n xs) := ⟨⟨h.1, h.2.1⟩, h.2.2⟩
theorem Gx.toF {w : World} {lo n : Nat} {A : Option Addr} {xs : List Nat} (h : Gx w lo (fx A n xs)) : Gs 26 w lo A n xs := ⟨h.1.1, h.1.2, h.2⟩
theorem IGs.toX {w : World} {lo n : Nat} {A : Option Addr} {xs : List Int} (h : IGs 2 w lo A n xs) : Gx w lo (ix64 A n xs) := h
theorem Gx.toI {w : World} {lo n : Nat} {A : Option Addr} {xs : List Int} (h : Gx w lo (ix64 A n xs)) : IGs 2 w lo A n xs := h
/-- two lists with something in them lie in two blocks -/
def Dx (p q : Lx) : Prop := 0 < p.n → 0 < q.n → ∀ g o s o' s', p.A = some ⟨g, o, s⟩ → q.A = some ⟨g, o', s'⟩ → False
theorem Dx.symm {p q : Lx} (h : Dx p q) : Dx q p := fun a b g o s o' s' e e' => h b a g o' s' o s e' e
def Hx (B : Nat) (v : World) : List Lx → Prop
  | [] => True
  | p :: r => (Gx v B p ∧ ∀ q ∈ r, Dx p q) ∧ Hx B v r
section
variable {B : Nat} {v v' : World} {p q : Lx} {r : List Lx}
theorem Hx.at_ : ∀ {r : List Lx} (h : Hx B v r) {p : Lx}, p ∈ r → Gx v B p
  | _ :: _, h, _, .head _ => h.1.1
  | _ :: _, h, _, .tail _ hp => Hx.at_ h.2 hp
theorem Hx.since : ∀ {r : List Lx} (h : Hx B v r) (hs : v.Since v.heap.size v'), Hx B v' r
  | [], _, _ => trivial
  | _ :: _, h, hs => ⟨⟨h.1.1.since hs, h.1.2⟩, Hx.since h.2 hs⟩
theorem Hx.new (h : Hx B v r) (hs : v.Since v.heap.size v') (g : Gx v' v.heap.size p) (hB : B ≤ v.heap.size) : Hx B v' (p :: r) :=
  ⟨⟨g.less hB, fun q hq a b c o s o' s' e e' => by
    obtain ⟨g1, e1, h1, h2⟩ := g.block a
    obtain ⟨g2, e2, h3, h4⟩ := (h.at_ hq).block b
    rw [e1] at e; rw [e2] at e'
    injection e with e; injection e with e _ _
    injection e' with e'; injection e' with e' _ _
    omega⟩, h.since hs⟩
theorem Hx.new2 (h : Hx B v r) (hs : v.Since v.heap.size v') (g : Gx v' v.heap.size p) (k : Gx v' v.heap.size q) (hd : Dx p q) (hB : B ≤ v.heap.size) : Hx B v' (p :: q :: r) := by
  have h1 := h.new hs g hB
  have h2 := h.new hs k hB
  refine ⟨⟨h1.1.1, fun s hs => ?_⟩, h2⟩
  rcases List.mem_cons.1 hs with rfl | hs
  · exact hd
  · exact h1.1.2 s hs
/-- what a mark leaves: this list's cells, all else as it was -/
theorem Hx.mark_hd {p' : Lx} (h : Hx B v (p :: r)) (g : Gx v' B p') (hA : p'.A = p.A) (hN : p'.n = p.n) (ho : ∀ g, (0 < p.n → ∀ g', p.A = some ⟨g', 0, none⟩ → g ≠ g') → v'.heap[g]? = v.heap[g]?) : Hx B v' (p' :: r) := by
  refine ⟨⟨g, fun q hq a b g o s o' s' e e' => h.1.2 q hq (hN ▸ a) b g o s o' s' (hA ▸ e) e'⟩, ?_⟩
  have hd := h.1.2
  have ht := h.2
  clear h
  induction r with
  | nil => trivial
  | cons q r ih =>
    refine ⟨⟨?_, ht.1.2⟩, ih (fun q' hq' => hd q' (.tail _ hq')) ht.2⟩
    have hq := ht.1.1
    refine ⟨hq.1, fun hn => ?_⟩
    obtain ⟨b, cs, e, hb, hh, hc⟩ := hq.2 hn
    refine ⟨b, cs, e, hb, (ho b fun hp g' e' he => ?_).trans hh, hc⟩
    subst he
    exact hd q (.head _) hp hn b 0 none 0 none e' e
theorem Hx.swap (h : Hx B v (p :: q :: r)) : Hx B v (q :: p :: r) := by
  obtain ⟨⟨h1, h2⟩, ⟨h3, h4⟩, h5⟩ := h
  refine ⟨⟨h3, fun s hs => ?_⟩, ⟨h1, fun s hs => h2 s (.tail _ hs)⟩, h5⟩
  rcases List.mem_cons.1 hs with rfl | hs
  · exact (h2 q (.head _)).symm
  · exact h4 s hs
theorem Hx.front {l : List Lx} : ∀ (k : List Lx), Hx B v (k ++ p :: l) → Hx B v (p :: (k ++ l))
  | [], h => h
  | q :: k, h => by
    have h2 : Hx B v (p :: (k ++ l)) := Hx.front k h.2
    have h3 : Hx B v (q :: p :: (k ++ l)) := ⟨⟨h.1.1, fun s hs => h.1.2 s (by
      rcases List.mem_cons.1 hs with rfl | hs
      · simp
      · rcases List.mem_append.1 hs with h4 | h4
        · simp [h4]
        · simp [h4])⟩, h2⟩
    exact h3.swap
end
end Fl
open Fl Go.RowKit
end Go.Proofs.Ytfgebggfoboalaa

/- Dynamics: levels, the program's. -/
set_option linter.unusedVariables false
set_option linter.unusedSimpArgs false
namespace Go.Proofs.Ytfgebggfoboalaa
open Fl Go.RowKit
end Go.Proofs.Ytfgebggfoboalaa

/- Lists of any kind that a law holds: compared and held; structs in boxes of a law. -/
set_option linter.unusedVariables false
set_option linter.unusedSimpArgs false
namespace Go.Proofs.Ytfgebggfoboalaa
open Fl Go.RowKit
theorem Fl.Gx.readF {w : World} {lo n : Nat} {A : Option Addr} {xs : List Nat} (h : Gx w lo (fx A n xs)) : Fs w w.heap.size A n xs := h.toF.read
/-- a struct of floats in a box of its own -/
def bx (T : TypeId) (g : Nat) (xs : List Nat) : Lx := ⟨T, some ⟨g, 0, none⟩, xs.length, fv xs, True⟩
theorem Fl.Gx.box {w : World} {T : TypeId} {lo g : Nat} {xs : List Nat} (h : Gx w lo (bx T g xs)) (i : Nat) (hi : i < xs.length) : w.cell? ⟨g, i, none⟩ = some (.float .f32 (wd xs i)) := by
  obtain ⟨g', cs, e, hg, hb, hc⟩ := h.2 (by show 0 < xs.length; omega)
  injection e with e; injection e with e _ _; subst e
  have h1 := hc i hi
  simp only [World.cell?, hb]
  simpa [bx, fv] using h1
theorem cells3 {w : World} {T : TypeId} {g : Nat} {x y z a r l : Value} (h : w.heap[g]? = some (.cells #[x, y, z] T (0, 0))) : (((w.setCell ⟨g, 0, none⟩ a).setCell ⟨g, 1, none⟩ r).setCell ⟨g, 2, none⟩ l).heap[g]? = some (.cells #[a, r, l] T (0, 0)) := by
  simp [World.setCell, Array.getElem?_modify, h]
theorem cells5 {w : World} {T : TypeId} {g : Nat} {x0 x1 x2 x3 x4 a b c d e : Value} (h : w.heap[g]? = some (.cells #[x0, x1, x2, x3, x4] T (0, 0))) : (((((w.setCell ⟨g, 0, none⟩ a).setCell ⟨g, 1, none⟩ b).setCell ⟨g, 2, none⟩ c).setCell ⟨g, 3, none⟩ d).setCell ⟨g, 4, none⟩ e).heap[g]? = some (.cells #[a, b, c, d, e] T (0, 0)) := by
  simp [World.setCell, Array.getElem?_modify, h]
/-- a box made and filled with three floats -/
theorem box3 (v : World) (T : TypeId) (a b c : Nat) (z : Value) : ∃ V, V = (((v.alloc (.cells #[z, z, z] T)).setCell ⟨v.heap.size, 0, none⟩ (.float .f32 a)).setCell ⟨v.heap.size, 1, none⟩ (.float .f32 b)).setCell ⟨v.heap.size, 2, none⟩ (.float .f32 c) ∧ v.Since v.heap.size V ∧ Gx V v.heap.size (bx T v.heap.size [a, b, c]) := by
  refine ⟨_, rfl, ((((World.Since.refl _ _).alloc (Nat.le_refl _) _).setCell (Nat.le_refl _) _).setCell (Nat.le_refl _) _).setCell (Nat.le_refl _) _, trivial, fun _ => ⟨v.heap.size, #[.float .f32 a, .float .f32 b, .float .f32 c], rfl, Nat.le_refl _, ?_, fun k hk => ?_⟩⟩
  · exact cells3 (Go.Deep.blk_alloc_new v (.cells #[z, z, z] T))
  · simp only [bx, List.length_cons, List.length_nil] at hk
    match k, hk with
    | 0, _ => rfl
    | 1, _ => rfl
    | 2, _ => rfl
theorem box5 (v : World) (T : TypeId) (a b c d e : Nat) (z : Value) : ∃ V, V = (((((v.alloc (.cells #[z, z, z, z, z] T)).setCell ⟨v.heap.size, 0, none⟩ (.float .f32 a)).setCell ⟨v.heap.size, 1, none⟩ (.float .f32 b)).setCell ⟨v.heap.size, 2, none⟩ (.float .f32 c)).setCell ⟨v.heap.size, 3, none⟩ (.float .f32 d)).setCell ⟨v.heap.size, 4, none⟩ (.float .f32 e) ∧ v.Since v.heap.size V ∧ Gx V v.heap.size (bx T v.heap.size [a, b, c, d, e]) := by
  refine ⟨_, rfl, ((((((World.Since.refl _ _).alloc (Nat.le_refl _) _).setCell (Nat.le_refl _) _).setCell (Nat.le_refl _) _).setCell (Nat.le_refl _) _).setCell (Nat.le_refl _) _).setCell (Nat.le_refl _) _, trivial, fun _ => ⟨v.heap.size, #[.float .f32 a, .float .f32 b, .float .f32 c, .float .f32 d, .float .f32 e], rfl, Nat.le_refl _, ?_, fun k hk => ?_⟩⟩
  · exact cells5 (Go.Deep.blk_alloc_new v (.cells #[z, z, z, z, z] T))
  · simp only [bx, List.length_cons, List.length_nil] at hk
    match k, hk with
    | 0, _ => rfl
    | 1, _ => rfl
    | 2, _ => rfl
    | 3, _ => rfl
    | 4, _ => rfl
/-- a box made with its floats in it -/
theorem boxa (v : World) (T : TypeId) (xs : List Nat) : ∃ V, V = v.alloc (.cells (xs.map fun x => Value.float .f32 x).toArray T) ∧ v.Since v.heap.size V ∧ Gx V v.heap.size (bx T v.heap.size xs) :=
  ⟨_, rfl, (World.Since.refl _ _).alloc (Nat.le_refl _) _, trivial, fun _ => ⟨v.heap.size, _, rfl, Nat.le_refl _, Go.Deep.blk_alloc_new _ _, fun k hk => by
    simp only [bx] at hk ⊢
    unfold fv wd
    simp [hk]⟩⟩
/-! followers as a law holds them -/
def zFol : Fol := ⟨some 0, some 0, some 0⟩
theorem PLFB.none_ {w w' : World} (s : w.Since w.heap.size w') (f0 : Nat → Option Nat) : PLFB 0 f0 zFol false w (.returned (.tuple #[.slice none 0 0, .agg #[.float .f32 0, .float .f32 0, .float .f32 0], .bool false])) w' :=
  ⟨⟨none, 0, []⟩, 0, ⟨0, 0, 0⟩, rfl, rfl, Gs.nil_, (fun k hk => by simp at hk), ⟨fv0, fv0, fv0⟩, s⟩
end Go.Proofs.Ytfgebggfoboalaa

/- Lists of int64 that functions give: contracts, looked at, held; rows of integers that a loop appends to. -/
set_option linter.unusedVariables false
set_option linter.unusedSimpArgs false
namespace Go.Proofs.Ytfgebggfoboalaa
open Fl Go.RowKit
namespace Fl
/-- a list of integers: where it lies, how long, its numbers -/
structure Li where
  A : Option Addr
  n : Nat
  xs : List Int
end Fl
theorem Fl.Gx.readI {w : World} {lo n : Nat} {A : Option Addr} {xs : List Int} (h : Gx w lo (ix64 A n xs)) : Is w w.heap.size A n xs := h.toI.read
def PJB (n0 : Nat) (f0 : List Int) (b : Bool) (w : World) (e : Ending) (w' : World) : Prop :=
  ∃ (p : Li) (c : Nat), e = .returned (.tuple #[.slice p.A p.n c, .bool b]) ∧ p.n = n0 ∧ IGs 2 w' w.heap.size p.A p.n p.xs ∧ p.xs = f0 ∧ w.Since w.heap.size w'
theorem PJB.none_ {w w' : World} (s : w.Since w.heap.size w') : PJB 0 [] false w (.returned (.tuple #[.slice none 0 0, .bool false])) w' :=
  ⟨⟨none, 0, []⟩, 0, rfl, rfl, IGs.nil_, rfl, s⟩
def PJVB (n0 : Nat) (f0 : List Int) (o : O) (b : Bool) (w : World) (e : Ending) (w' : World) : Prop :=
  ∃ (p : Li) (c r : Nat), e = .returned (.tuple #[.slice p.A p.n c, .float .f32 r, .bool b]) ∧ p.n = n0 ∧ IGs 2 w' w.heap.size p.A p.n p.xs ∧ p.xs = f0 ∧ Hid (Fv .f32 r o) ∧ w.Since w.heap.size w'
/-! rows of integers that a loop appends to -/
namespace Fl
def ivl (os : List Int) : List Value := os.map fun x => Value.int .i64 x
theorem ivl_snoc (xs : List Int) (x : Int) : ivl xs ++ [Value.int .i64 x] = ivl (xs ++ [x]) := by unfold ivl; simp
theorem IGs.of_own {w : World} {lo n c : Nat} {A : Option Addr} {xs : List Int} (h : w.ownsRow lo 2 1 (.slice A n c) n (ivl xs)) : IGs 2 w lo A n xs := by
  have hl : xs.length = n := by simpa [ivl] using h.1
  refine ⟨hl, fun hn => ?_⟩
  rcases h.2 with ⟨hv, h0⟩ | ⟨g, cap, cur, hv, hg, hb, hnc, _, hsz, htk⟩
  · omega
  · injection hv with h1 _ _
    subst h1
    refine ⟨g, cur, rfl, hg, hb, fun k hk => ?_⟩
    have e1 : (cur.toList.take (n * 1))[k]? = (ivl xs)[k]? := by rw [htk]
    rw [List.getElem?_take_of_lt (by omega)] at e1
    rw [Array.getElem?_toList] at e1
    rw [e1]
    unfold ivl iv wi
    simp [List.getD_eq_getElem?_getD, List.getElem?_eq_getElem (show k < xs.length by omega)]
end Fl
/-- v is a row of the loop's own, from block lo on, whose numbers are these -/
def RwI (lo : Nat) (w : World) (v : Value) (os : List Int) : Prop := w.ownsRow lo 2 1 v os.length (ivl os)
theorem RwI.start (w : World) (lo : Nat) (h : lo ≤ w.heap.size) : RwI lo (w.alloc (.cells #[] 2)) (.slice (some ⟨w.heap.size, 0, none⟩) 0 0) [] :=
  ⟨rfl, .inr ⟨w.heap.size, 0, #[], rfl, h, Go.Deep.blk_alloc_new _ _, Nat.le_refl _, Nat.zero_le _, rfl, rfl⟩⟩
theorem RwI.keep {lo : Nat} {w w' : World} {v : Value} {os : List Int} (h : RwI lo w v os) (e : ∀ b, lo ≤ b → b < w.heap.size → w'.heap[b]? = w.heap[b]?) : RwI lo w' v os := by
  obtain ⟨h1, h2⟩ := h
  refine ⟨h1, ?_⟩
  rcases h2 with h2 | ⟨g, cap, cur, e1, h3, h4, r⟩
  · exact .inl h2
  · exact .inr ⟨g, cap, cur, e1, h3, (e g h3 (Array.getElem?_eq_some_iff.1 h4).1).trans h4, r⟩
theorem RwI.since {lo : Nat} {w w' : World} {v : Value} {os : List Int} (h : RwI lo w v os) (s : w.Since w.heap.size w') : RwI lo w' v os := h.keep fun b _ hb => s.block b hb
theorem RwI.drewN {lo : Nat} {w : World} {v : Value} {os : List Int} (h : RwI lo w v os) (n : Nat) : RwI lo (w.drewN n) v os := h
theorem RwI.alloc {lo : Nat} {w : World} {v : Value} {os : List Int} (h : RwI lo w v os) (o : Obj) : RwI lo (w.alloc o) v os := h.since ((World.Since.refl _ _).alloc (Nat.le_refl _) _)
theorem RwI.done {lo : Nat} {w : World} {v : Value} {os : List Int} (h : RwI lo w v os) : ∃ (p : Li) (c : Nat), v = .slice p.A p.n c ∧ p.n = os.length ∧ IGs 2 w lo p.A p.n p.xs ∧ p.xs = os := by
  have hf' : v = .slice none 0 0 ∧ os.length = 0 ∨ ∃ g cap, v = .slice (some ⟨g, 0, none⟩) os.length cap := by
    rcases h.2 with h2 | ⟨g, cap, cur, e, _⟩
    · exact .inl h2
    · exact .inr ⟨g, cap, e⟩
  rcases hf' with ⟨rfl, h0⟩ | ⟨g, cap, rfl⟩
  · obtain rfl : os = [] := List.eq_nil_of_length_eq_zero h0
    exact ⟨⟨none, 0, []⟩, 0, rfl, rfl, IGs.nil_, rfl⟩
  · exact ⟨⟨some ⟨g, 0, none⟩, os.length, os⟩, cap, rfl, rfl, IGs.of_own h, rfl⟩
theorem wpList_app1I {ops : Array Oper} {rest : List Oper} {o : Oper} {a : Act} {Q : Exit → Act → World → Prop} {w : World} (hgd : o.guard = none) (s x : Operand)
    (ho : o.op = .call { callee := .builtin .append, args := #[s, x], argTypes := #[75, 75] }) (lo : Nat) (v : Value) (os : List Int) (hs : a.eval s = v) (b : Nat) (r : Int)
    (hx : a.eval x = .slice (some ⟨b, 0, none⟩) 1 1) (hc : w.cell? ⟨b, 0, none⟩ = some (.int .i64 r)) (hk : os.length < 1048576) (hlo : lo ≤ w.heap.size) (hR : RwI lo w v os)
    (h : ∀ v' w', Hid (RwI lo w' v' (os ++ [r])) → Hid (w.Since lo w') → wpList Try.prog ops Q rest (a.put o.dst v') w') : wpList Try.prog ops Q (o :: rest) a w := by
  have h1 := hR
  obtain ⟨i0, hi, hz0, hz1, hz2⟩ := info_parts Try.infoI
  refine wpList_append_own (P := Try.prog) w hgd s x 75 ho lo 2 i0 (.int .i64 0) 1 8 Try.underlying75 hi hz0 hz1 hz2 rfl (by omega) v os.length (ivl os) hs h1 ⟨b, 0, none⟩ 1 1 [.int .i64 r] hx rfl ?_ ?_ ?_ ?_ hlo ?_
  · intro j u hj
    rcases j with _ | j
    · simp at hj; subst hj; simpa [Addr.add] using hc
    · simp at hj
  · intro u hu; simp at hu; subst hu; rfl
  · unfold maxLen; omega
  · omega
  · intro v' w' hown hg _
    refine h v' w' (Lib.hid ?_) (Lib.hid ⟨hg.os, hg.tape, hg.output, hg.size, fun i hi => ?_⟩)
    · show w'.ownsRow lo 2 1 v' (os ++ [r]).length (ivl (os ++ [r]))
      rw [← ivl_snoc, List.length_append]; exact hown
    · refine hg.block i (by omega) fun e => ?_
      have := own_lo h1 i e.symm
      omega
end Go.Proofs.Ytfgebggfoboalaa

/- What a law holds: entries, each with the blocks it lies in, apart from one another. Lists of floats and of integers anywhere in a block. -/
set_option linter.unusedVariables false
set_option linter.unusedSimpArgs false
namespace Go.Proofs.Ytfgebggfoboalaa
namespace Fl
/-- an entry: what it says of a world, and the blocks that it speaks of -/
structure En where
  P : World → Prop
  S : Nat → Prop
/-- it lies in blocks of the law's own, from B on, and speaks of these alone -/
def Ge (B : Nat) (w : World) (e : En) : Prop := e.P w ∧ (∀ w w' : World, (∀ g, e.S g → w'.heap[g]? = w.heap[g]?) → e.P w → e.P w') ∧ ∀ g, e.S g → B ≤ g ∧ g < w.heap.size
section
variable {B : Nat} {v v' : World} {p q : En} {r : List En}
theorem Ge.keep (h : Ge B v p) (hs : ∀ g, p.S g → v'.heap[g]? = v.heap[g]?) (hz : v.heap.size ≤ v'.heap.size) : Ge B v' p :=
  ⟨h.2.1 v v' hs h.1, h.2.1, fun g hg => ⟨(h.2.2 g hg).1, Nat.lt_of_lt_of_le (h.2.2 g hg).2 hz⟩⟩
theorem Ge.since (h : Ge B v p) (hs : v.Since v.heap.size v') : Ge B v' p := h.keep (fun g hg => hs.block g (h.2.2 g hg).2) hs.size
theorem Ge.less {b : Nat} (h : Ge B v p) (hb : b ≤ B) : Ge b v p := ⟨h.1, h.2.1, fun g hg => ⟨Nat.le_trans hb (h.2.2 g hg).1, (h.2.2 g hg).2⟩⟩
/-- two entries lie in different blocks -/
def De (p q : En) : Prop := ∀ g, p.S g → q.S g → False
theorem De.symm (h : De p q) : De q p := fun g a b => h g b a
def He (B : Nat) (v : World) : List En → Prop
  | [] => True
  | p :: r => (Ge B v p ∧ ∀ q ∈ r, De p q) ∧ He B v r
theorem He.at_ : ∀ {r : List En} (h : He B v r) {p : En}, p ∈ r → Ge B v p
  | _ :: _, h, _, .head _ => h.1.1
  | _ :: _, h, _, .tail _ hp => He.at_ h.2 hp
theorem He.since : ∀ {r : List En} (h : He B v r) (hs : v.Since v.heap.size v'), He B v' r
  | [], _, _ => trivial
  | _ :: _, h, hs => ⟨⟨h.1.1.since hs, h.1.2⟩, He.since h.2 hs⟩
theorem He.less {b : Nat} : ∀ {r : List En} (h : He B v r) (hb : b ≤ B), He b v r
  | [], _, _ => trivial
  | _ :: _, h, hb => ⟨⟨h.1.1.less hb, h.1.2⟩, He.less h.2 hb⟩
theorem He.new (h : He B v r) (hs : v.Since v.heap.size v') (g : Ge v.heap.size v' p) (hB : B ≤ v.heap.size) : He B v' (p :: r) :=
  ⟨⟨g.less hB, fun q hq b h1 h2 => by
    have h3 := (g.2.2 b h1).1
    have h4 := ((h.at_ hq).2.2 b h2).2
    omega⟩, h.since hs⟩
theorem He.new2 (h : He B v r) (hs : v.Since v.heap.size v') (g : Ge v.heap.size v' p) (k : Ge v.heap.size v' q) (hd : De p q) (hB : B ≤ v.heap.size) : He B v' (p :: q :: r) := by
  have h1 := h.new hs g hB
  have h2 := h.new hs k hB
  refine ⟨⟨h1.1.1, fun s hs => ?_⟩, h2⟩
  rcases List.mem_cons.1 hs with rfl | hs
  · exact hd
  · exact h1.1.2 s hs
theorem He.mark_hd {p' : En} (h : He B v (p :: r)) (g : Ge B v' p') (hS : p'.S = p.S) (ho : ∀ g, ¬ p.S g → v'.heap[g]? = v.heap[g]?) (hz : v.heap.size ≤ v'.heap.size) : He B v' (p' :: r) := by
  refine ⟨⟨g, fun q hq b h1 h2 => h.1.2 q hq b (hS ▸ h1) h2⟩, ?_⟩
  have hd := h.1.2
  have ht := h.2
  clear h
  induction r with
  | nil => trivial
  | cons q r ih =>
    refine ⟨⟨?_, ht.1.2⟩, ih (fun q' hq' => hd q' (.tail _ hq')) ht.2⟩
    exact ht.1.1.keep (fun b hb => ho b fun hp => hd q (.head _) b hp hb) hz
theorem He.swap (h : He B v (p :: q :: r)) : He B v (q :: p :: r) := by
  obtain ⟨⟨h1, h2⟩, ⟨h3, h4⟩, h5⟩ := h
  refine ⟨⟨h3, fun s hs => ?_⟩, ⟨h1, fun s hs => h2 s (.tail _ hs)⟩, h5⟩
  rcases List.mem_cons.1 hs with rfl | hs
  · exact (h2 q (.head _)).symm
  · exact h4 s hs
theorem He.front {l : List En} : ∀ (k : List En), He B v (k ++ p :: l) → He B v (p :: (k ++ l))
  | [], h => h
  | q :: k, h => by
    have h2 : He B v (p :: (k ++ l)) := He.front k h.2
    have h3 : He B v (q :: p :: (k ++ l)) := ⟨⟨h.1.1, fun s hs => h.1.2 s (by
      rcases List.mem_cons.1 hs with rfl | hs
      · simp
      · rcases List.mem_append.1 hs with h4 | h4
        · simp [h4]
        · simp [h4])⟩, h2⟩
    exact h3.swap
end
/-- cells of one block: their type, where they begin, how many, what they are -/
def ce (T : TypeId) (A : Option Addr) (n : Nat) (f : Nat → Value) (ok : Prop) : En :=
  ⟨fun w => ok ∧ (0 < n → ∃ g off cs, A = some ⟨g, off, none⟩ ∧ w.heap[g]? = some (.cells cs T (0, 0)) ∧ ∀ k, k < n → cs[off + k]? = some (f k)), fun g => 0 < n ∧ ∃ off, A = some ⟨g, off, none⟩⟩
theorem ce_frame {T : TypeId} {A : Option Addr} {n : Nat} {f : Nat → Value} {ok : Prop} (w w' : World) (h : ∀ g, (ce T A n f ok).S g → w'.heap[g]? = w.heap[g]?) (hp : (ce T A n f ok).P w) : (ce T A n f ok).P w' :=
  ⟨hp.1, fun hn => by
    obtain ⟨g, off, cs, e, hb, hc⟩ := hp.2 hn
    exact ⟨g, off, cs, e, (h g ⟨hn, off, e⟩).trans hb, hc⟩⟩
theorem ce_ge {T : TypeId} {A : Option Addr} {n B : Nat} {f : Nat → Value} {ok : Prop} {w : World} (ho : ok) (h : 0 < n → ∃ g off cs, A = some ⟨g, off, none⟩ ∧ B ≤ g ∧ w.heap[g]? = some (.cells cs T (0, 0)) ∧ ∀ k, k < n → cs[off + k]? = some (f k)) : Ge B w (ce T A n f ok) :=
  ⟨⟨ho, fun hn => by obtain ⟨g, off, cs, e, _, hb, hc⟩ := h hn; exact ⟨g, off, cs, e, hb, hc⟩⟩, ce_frame, fun g ⟨hn, off, e⟩ => by
    obtain ⟨g', off', cs, e', hB, hb, hc⟩ := h hn
    rw [e] at e'
    injection e' with e'
    injection e' with e' _ _
    subst e'
    exact ⟨hB, (Array.getElem?_eq_some_iff.1 hb).1⟩⟩
theorem Ge.ce {T : TypeId} {A : Option Addr} {n B : Nat} {f : Nat → Value} {ok : Prop} {w : World} (h : Ge B w (ce T A n f ok)) (hn : 0 < n) : ∃ g off cs, A = some ⟨g, off, none⟩ ∧ B ≤ g ∧ g < w.heap.size ∧ w.heap[g]? = some (.cells cs T (0, 0)) ∧ ∀ k, k < n → cs[off + k]? = some (f k) := by
  obtain ⟨g, off, cs, e, hb, hc⟩ := h.1.2 hn
  have := h.2.2 g ⟨hn, off, e⟩
  exact ⟨g, off, cs, e, this.1, this.2, hb, hc⟩
def fe (A : Option Addr) (n : Nat) (xs : List Nat) : En := ce 26 A n (fv xs) (xs.length = n ∧ Small xs)
def ie (A : Option Addr) (n : Nat) (xs : List Int) : En := ce 2 A n (iv xs) (xs.length = n)
theorem Gs.toE {w : World} {lo n : Nat} {A : Option Addr} {xs : List Nat} (h : Gs 26 w lo A n xs) : Ge lo w (fe A n xs) :=
  ce_ge ⟨h.1, h.2.1⟩ fun hn => by
    obtain ⟨g, cs, e, hg, hb, hc⟩ := h.2.2 hn
    exact ⟨g, 0, cs, e, hg, hb, fun k hk => by rw [Nat.zero_add]; exact hc k hk⟩
theorem IGs.toE {w : World} {lo n : Nat} {A : Option Addr} {xs : List Int} (h : IGs 2 w lo A n xs) : Ge lo w (ie A n xs) :=
  ce_ge h.1 fun hn => by
    obtain ⟨g, cs, e, hg, hb, hc⟩ := h.2 hn
    exact ⟨g, 0, cs, e, hg, hb, fun k hk => by rw [Nat.zero_add]; exact hc k hk⟩
theorem Ge.readF {w : World} {lo n : Nat} {A : Option Addr} {xs : List Nat} (h : Ge lo w (fe A n xs)) : Fs w w.heap.size A n xs :=
  ⟨h.1.1.1, h.1.1.2, fun hn => by
    obtain ⟨g, off, cs, e, hg, hl, hb, hc⟩ := h.ce hn
    refine ⟨g, off, e, hl, fun k hk => ?_⟩
    simp only [World.cell?, hb]
    simpa using hc k hk⟩
theorem Ge.readI {w : World} {lo n : Nat} {A : Option Addr} {xs : List Int} (h : Ge lo w (ie A n xs)) : Is w w.heap.size A n xs :=
  ⟨h.1.1, fun hn => by
    obtain ⟨g, off, cs, e, hg, hl, hb, hc⟩ := h.ce hn
    refine ⟨g, off, e, hl, fun k hk => ?_⟩
    simp only [World.cell?, hb]
    simpa using hc k hk⟩
end Fl
open Fl Go.RowKit
end Go.Proofs.Ytfgebggfoboalaa

/- Boxes of a law; two lists given back. -/
set_option linter.unusedVariables false
set_option linter.unusedSimpArgs false
namespace Go.Proofs.Ytfgebggfoboalaa
open Fl Go.RowKit
/-- a struct in a box of its own -/
def bxv (T : TypeId) (g : Nat) (vs : List Value) : En := ⟨fun w => w.heap[g]? = some (.cells vs.toArray T (0, 0)), fun b => b = g⟩
def bxf (T : TypeId) (g : Nat) (xs : List Nat) : En := bxv T g (xs.map fun x => Value.float .f32 x)
theorem Fl.Ge.boxv {w : World} {T : TypeId} {lo g : Nat} {vs : List Value} (h : Ge lo w (bxv T g vs)) (i : Nat) (v : Value) (hi : vs[i]? = some v) : w.cell? ⟨g, i, none⟩ = some v := by
  have h1 : w.heap[g]? = some (.cells vs.toArray T (0, 0)) := h.1
  simp only [World.cell?, h1]
  simpa using hi
theorem Fl.Ge.box {w : World} {T : TypeId} {lo g : Nat} {xs : List Nat} (h : Ge lo w (bxf T g xs)) (i : Nat) (hi : i < xs.length) : w.cell? ⟨g, i, none⟩ = some (.float .f32 (wd xs i)) :=
  Ge.boxv h i _ (by rw [List.getElem?_map, List.getElem?_eq_getElem hi]; simp [wd, List.getD_eq_getElem?_getD, List.getElem?_eq_getElem hi])
theorem boxv_ge (v : World) (T : TypeId) (vs : List Value) : Ge v.heap.size (v.alloc (.cells vs.toArray T)) (bxv T v.heap.size vs) :=
  ⟨Go.Deep.blk_alloc_new _ _, fun w w' h hp => (h _ rfl).trans hp, fun g hg => by
    have hg' : g = v.heap.size := hg
    subst hg'
    exact ⟨Nat.le_refl _, by simp⟩⟩
theorem boxw (v : World) (T : TypeId) (vs : List Value) : ∃ V, V = v.alloc (.cells vs.toArray T) ∧ v.Since v.heap.size V ∧ Ge v.heap.size V (bxv T v.heap.size vs) :=
  ⟨_, rfl, (World.Since.refl _ _).alloc (Nat.le_refl _) _, boxv_ge v T vs⟩
theorem boxe (v : World) (T : TypeId) (xs : List Nat) : ∃ V, V = v.alloc (.cells (xs.map fun x => Value.float .f32 x).toArray T) ∧ v.Since v.heap.size V ∧ Ge v.heap.size V (bxf T v.heap.size xs) :=
  boxw v T _
def PEB (n0 : Nat) (f0 : Nat → O) (b : Bool) (w : World) (e : Ending) (w' : World) : Prop :=
  ∃ (p : Ls) (c : Nat), e = .returned (.tuple #[.slice p.A p.n c, .bool b]) ∧ p.n = n0 ∧ Ge w.heap.size w' (fe p.A p.n p.xs) ∧ Are p f0 ∧ w.Since w.heap.size w'
theorem PEB.none_ {w w' : World} (s : w.Since w.heap.size w') (f0 : Nat → O) : PEB 0 f0 false w (.returned (.tuple #[.slice none 0 0, .bool false])) w' :=
  ⟨⟨none, 0, []⟩, 0, rfl, rfl, Gs.nil_.toE, (fun k hk => by simp at hk), s⟩
theorem PLB.toE {n0 : Nat} {f0 : Nat → O} {b : Bool} {w w' : World} {e : Ending} (h : PLB n0 f0 b w e w') : PEB n0 f0 b w e w' := by
  obtain ⟨p, c, h1, h2, h3, h4, h5⟩ := h
  exact ⟨p, c, h1, h2, h3.toE, h4, h5⟩
/-- two lists and a yes or no -/
def PEEB (n0 : Nat) (f0 : Nat → O) (n1 : Nat) (f1 : Nat → O) (b : Bool) (w : World) (e : Ending) (w' : World) : Prop :=
  ∃ (p q : Ls) (c d : Nat), e = .returned (.tuple #[.slice p.A p.n c, .slice q.A q.n d, .bool b]) ∧ p.n = n0 ∧ q.n = n1 ∧ Ge w.heap.size w' (fe p.A p.n p.xs) ∧ Ge w.heap.size w' (fe q.A q.n q.xs) ∧ Are p f0 ∧ Are q f1 ∧ De (fe p.A p.n p.xs) (fe q.A q.n q.xs) ∧ w.Since w.heap.size w'
theorem PEEB.none_ {w w' : World} (s : w.Since w.heap.size w') (f0 f1 : Nat → O) : PEEB 0 f0 0 f1 false w (.returned (.tuple #[.slice none 0 0, .slice none 0 0, .bool false])) w' :=
  ⟨⟨none, 0, []⟩, ⟨none, 0, []⟩, 0, 0, rfl, rfl, rfl, Gs.nil_.toE, Gs.nil_.toE, (fun k hk => by simp at hk), (fun k hk => by simp at hk), (fun g h _ => by simp [fe, ce] at h), s⟩
end Go.Proofs.Ytfgebggfoboalaa

/- Dynamics: the program's gate, all samples. -/
set_option linter.unusedVariables false
set_option linter.unusedSimpArgs false
namespace Go.Proofs.Ytfgebggfoboalaa
open Fl Go.RowKit
end Go.Proofs.Ytfgebggfoboalaa

/- Dynamics: the root of the mean of squares. -/
set_option linter.unusedVariables false
set_option linter.unusedSimpArgs false
namespace Go.Proofs.Ytfgebggfoboalaa
open Fl Go.RowKit
def meanO (xs : List Nat) (n : Nat) : O := rootO (qu (dotO xs xs n) (some (fI n)))
def meanB (n : Nat) : Bool := decide (n ≤ 256) && decide (0 < n)
def meanR (xs : List Nat) (n : Nat) : O := if meanB n then meanO xs n else some 0
theorem meanR_yes {xs : List Nat} {n : Nat} (h : n ≤ 256) (h0 : 0 < n) : meanR xs n = meanO xs n := by unfold meanR meanB; rw [decide_eq_true h, decide_eq_true h0]; rfl
set_option maxHeartbeats 1000000 in
theorem implMean_any (A : Option Addr) (n c : Nat) (xs : List Nat) (w : World) (B : Nat) (h : Fs w B A n xs) (hn : n ≤ 1048576) :
    Calls Try.prog 11 #[.slice A n c] w (RetFB .f32 (meanR xs n) (meanB n) w) := by
  have HD := Lib.hid (fun v (s : Fs v B A n xs) => implDot_any A n c xs A n c xs v B s s hn hn)
  by_cases hle : n ≤ 256
  · rw [if_pos ⟨hle, rfl⟩, decide_eq_true (show n ≤ 256 ∧ n = n from ⟨hle, rfl⟩)] at HD
    have H := Lib.hid h
    clear h
    by_cases h0 : 0 < n
    · have h1 : ((n : Int) == 0) = false := by simp; omega
      have q2 := fI_fv (n : Nat)
      rw [meanR_yes hle h0, show meanB n = true by unfold meanB; rw [decide_eq_true hle, decide_eq_true h0]; rfl]
      go_enter Try.func11, Try.ntmps11
      go_wp2_with fail
      refine (HD.out _ H.out).mono ?_
      rintro e w' ⟨r1, m1, rfl, hv, rfl⟩
      have V1 : Hid (Fv .f32 r1 (dotO xs xs n)) := Lib.hid hv
      clear hv
      go_wp2_with (with_reducible_and_instances refine Lo.wpList_fo _ rfl _ _ _ _ _ rfl _ _ _ _ _ rfl rfl rfl (by assumption) (by assumption) ?_; intro rr nn hrr)
      refine (implRoot_any _ _ hrr.out.1).mono ?_
      rintro e w' ⟨r2, m2, rfl, hv2, rfl⟩
      rw [hrr.out.2] at hv2
      have V2 := Lib.hid hv2
      clear hv2
      go_wp2
      go_ret2
      exact ⟨r2, _, rfl, V2.out, rfl⟩
    · obtain rfl : n = 0 := by omega
      go_enter Try.func11, Try.ntmps11
      go_wp2_with fail
      refine (HD.out _ H.out).mono ?_
      rintro e w' ⟨r1, m1, rfl, hv, rfl⟩
      clear hv
      go_wp2
      go_ret2
      exact ⟨0, m1, rfl, fv32z, rfl⟩
  · rw [if_neg (fun h => hle h.1), decide_eq_false (fun (h : n ≤ 256 ∧ n = n) => hle h.1)] at HD
    have H := Lib.hid h
    clear h
    rw [show meanR xs n = some 0 by unfold meanR meanB; rw [decide_eq_false hle]; rfl, show meanB n = false by unfold meanB; rw [decide_eq_false hle]; rfl]
    go_enter Try.func11, Try.ntmps11
    go_wp2_with fail
    refine (HD.out _ H.out).mono ?_
    rintro e w' ⟨r1, m1, rfl, hv, rfl⟩
    clear hv
    go_wp2
    go_ret2
    exact ⟨0, m1, rfl, fv32z, rfl⟩
end Go.Proofs.Ytfgebggfoboalaa

/- Halving and doubling move a normal number by one binade. -/
set_option linter.unusedVariables false
set_option linter.unusedSimpArgs false
namespace Go.Proofs.Ytfgebggfoboalaa
namespace Fl
open Ieee
def cTwo : Nat := 4611686018427387904

theorem zv_step (k : FloatKind) {r : Nat} (h : k.format.binade ≤ r) : zv k (r + k.format.binade) = 2 * zv k r := by
  have hp := bin_pos k
  unfold zv
  rw [if_neg (by omega), if_neg (by omega), Nat.add_mod_right, Nat.add_div_right _ hp]
  have hq : 1 ≤ r / k.format.binade := (Nat.one_le_div_iff hp).2 h
  generalize r / k.format.binade = q at *
  obtain ⟨p, rfl⟩ : ∃ p, q = p + 1 := ⟨q - 1, by omega⟩
  rw [show (p + 1).succ - 1 = p + 1 by omega, show p + 1 - 1 = p by omega, Nat.pow_succ]
  generalize (k.format.binade + r % k.format.binade) = u
  rw [← Nat.mul_assoc, Nat.mul_comm]

theorem half {x : Nat} (hx : rung .f64 x < FloatKind.f64.format.infRung) (h : 2 * FloatKind.f64.format.binade ≤ rung .f64 x) :
    ∃ r, floatBits .quo .f64 x cTwo = some r ∧ rung .f64 r + FloatKind.f64.format.binade ≤ rung .f64 x := by
  have hb : FloatKind.f64.format.binade = 4503599627370496 := by decide
  have hi : FloatKind.f64.format.infRung = 9218868437227405312 := by decide
  obtain ⟨y, hy⟩ : ∃ y, y = FloatKind.f64.format.word false (rung .f64 x - FloatKind.f64.format.binade) := ⟨_, rfl⟩
  have ry : rung .f64 y = rung .f64 x - FloatKind.f64.format.binade := by
    rw [hy]; unfold rung; rw [word_rung_mod _ _ (by have : x % FloatKind.f64.format.signWeight = rung .f64 x := rfl; omega)]
  obtain ⟨r, hr, hle⟩ := div_size .f64 (x := x) (y := cTwo) (t := y) hx (by decide : rung .f64 cTwo < _) (by show rung .f64 y < _; omega) (by decide) 1074 (by decide) (by
    have e := zv_step .f64 (r := rung .f64 y) (by omega)
    rw [ry, Nat.sub_add_cancel (by omega)] at e
    rw [e, ry]
    have e0 : zv .f64 (rung .f64 cTwo) = 2 * 2 ^ 1074 := by decide +kernel
    rw [e0]
    generalize zv .f64 (rung .f64 x - FloatKind.f64.format.binade) = z
    generalize (2 : Nat) ^ 1074 = E
    rw [Nat.mul_comm 2 z, Nat.mul_assoc]
    exact Nat.le_refl _)
  exact ⟨r, hr, by omega⟩

theorem double {x : Nat} (h : FloatKind.f64.format.binade ≤ rung .f64 x) (hx : rung .f64 x + FloatKind.f64.format.binade < FloatKind.f64.format.infRung) :
    ∃ r, floatBits .mul .f64 x cTwo = some r ∧ rung .f64 x + FloatKind.f64.format.binade ≤ rung .f64 r ∧ sgn .f64 r = sgn .f64 x := by
  obtain ⟨m, e, hm, hz⟩ := read_fin .f64 (b := x) (by omega)
  obtain ⟨n, f, hn, hz2⟩ := read_fin .f64 (b := cTwo) (by decide)
  rw [show sgn .f64 cTwo = false by decide] at hn
  simp only [floatBits, Format.mul, hm, hn, Datum.product, Option.map_some]
  refine ⟨_, rfl, ?_, ?_⟩
  · obtain ⟨M, E, hZ, hform, hML⟩ := rung_form .f64 (rung .f64 x + FloatKind.f64.format.binade)
    have hT := nearest_rung .f64 false hx hZ hform
    rw [← hT]
    refine nearest_mono .f64 _ _ (b := FloatKind.f64.format.leastPlace + FloatKind.f64.format.leastPlace) (by have := lp_neg .f64; omega) (by omega) (by have := lp_neg .f64; omega) ?_
    have e1 : (FloatKind.f64.format.leastPlace + (e : Int) + (FloatKind.f64.format.leastPlace + (f : Int)) - (FloatKind.f64.format.leastPlace + FloatKind.f64.format.leastPlace)).toNat = e + f := by omega
    have lp : FloatKind.f64.format.leastPlace = -1074 := by decide
    have e2 : (FloatKind.f64.format.leastPlace + (E : Int) - (FloatKind.f64.format.leastPlace + FloatKind.f64.format.leastPlace)).toNat = E + 1074 := by omega
    rw [e1, e2, Nat.pow_add, Nat.pow_add]
    have g1 : m * n * (2 ^ e * 2 ^ f) = (m * 2 ^ e) * (n * 2 ^ f) := by
      rw [Nat.mul_assoc, Nat.mul_assoc, Nat.mul_left_comm n]
    rw [g1, ← hz, ← hz2, ← Nat.mul_assoc, ← hZ, zv_step .f64 h]
    have e0 : zv .f64 (rung .f64 cTwo) = 2 * 2 ^ 1074 := by decide +kernel
    rw [e0]
    generalize zv .f64 (rung .f64 x) = z
    generalize (2 : Nat) ^ 1074 = F
    rw [Nat.mul_comm 2 z, Nat.mul_assoc]
    exact Nat.le_refl _
  · have := sgn_nearest .f64 (sgn .f64 x != false) (m * n) (FloatKind.f64.format.leastPlace + (e : Int) + (FloatKind.f64.format.leastPlace + (f : Int)))
    have e2 : (sgn .f64 x != false) = sgn .f64 x := by cases sgn .f64 x <;> rfl
    exact this.trans e2
end Fl
end Go.Proofs.Ytfgebggfoboalaa

/- The least size of a quotient; halving is exact. -/
set_option linter.unusedVariables false
set_option linter.unusedSimpArgs false
namespace Go.Proofs.Ytfgebggfoboalaa
namespace Fl
open Ieee
/-- THE LEAST SIZE OF A QUOTIENT: where x is at least t times y, x / y is rounded to at least t. -/
theorem div_low (k : FloatKind) {x y t : Nat} (hx : Fin k x) (hy : Fin k y) (ht : Fin k t) (hy0 : rung k y ≠ 0) (P : Nat) (hP : (P : Int) = -k.format.leastPlace)
    (h : zv k (rung k t) * zv k (rung k y) ≤ zv k (rung k x) * 2 ^ P) :
    ∃ r, floatBits .quo k x y = some r ∧ rung k t ≤ rung k r := by
  obtain ⟨m, e, hm, hz⟩ := read_fin k hx
  obtain ⟨n, f, hn, hz2⟩ := read_fin k hy
  obtain ⟨M, E, hZ, hform, hML⟩ := rung_form k (rung k t)
  have hn0 : n ≠ 0 := by
    intro e0
    subst e0
    rw [Nat.zero_mul] at hz2
    have := (zv_inj k (r := rung k y) (s := 0)).1 (by rw [zv_zero]; exact hz2)
    exact hy0 this
  simp only [floatBits, Format.div, hm, hn, Datum.quotient, if_neg hn0, Option.map_some]
  refine ⟨_, rfl, ?_⟩
  show _ ≤ rung k (k.format.nearest _ _ _)
  have hT := nearest_rung k false ht hZ hform
  rw [← hT]
  generalize hmo : k.format.fractionBits + 2 + n.log2 - m.log2 = more
  have hsh : m <<< more = m * 2 ^ more := Nat.shiftLeft_eq ..
  rw [hsh]
  rw [hz, hz2, hZ] at h
  have hnp := Nat.pos_of_ne_zero hn0
  by_cases hm0 : m = 0
  · subst hm0
    rw [Nat.zero_mul, Nat.zero_mul] at h
    have hM0 : M = 0 := by
      rcases Nat.eq_zero_or_pos M with h1 | h1
      · exact h1
      · exfalso
        have := Nat.mul_pos (Nat.mul_pos h1 (Nat.two_pow_pos E)) (Nat.mul_pos hnp (Nat.two_pow_pos f))
        omega
    subst hM0
    refine nearest_mono k _ _ (b := min (k.format.leastPlace + (e : Int) - (k.format.leastPlace + (f : Int)) - (more : Int) - 1) k.format.leastPlace) (by omega) (by omega) (by omega) ?_
    rw [Nat.zero_mul]; exact Nat.zero_le _
  · have hD : 2 ^ (k.format.fractionBits + 2 + n.log2) ≤ m * 2 ^ more := by
      have h1 : 2 ^ m.log2 ≤ m := Nat.log2_self_le hm0
      calc 2 ^ (k.format.fractionBits + 2 + n.log2) ≤ 2 ^ (m.log2 + more) := Nat.pow_le_pow_right (by omega) (by omega)
        _ = 2 ^ m.log2 * 2 ^ more := Nat.pow_add ..
        _ ≤ m * 2 ^ more := Nat.mul_le_mul_right _ h1
    have hn1 : n < 2 ^ (n.log2 + 1) := Nat.lt_log2_self
    refine nearest_mono k _ _ (b := min (k.format.leastPlace + (e : Int) - (k.format.leastPlace + (f : Int)) - (more : Int) - 1) k.format.leastPlace) (by omega) (by omega) (by omega) ?_
    generalize hb : min (k.format.leastPlace + (e : Int) - (k.format.leastPlace + (f : Int)) - (more : Int) - 1) k.format.leastPlace = b
    rcases Nat.lt_or_ge (E + f + more + 1) (e + P) with hlt | hge
    · -- the unit of the quotient is greater than that of t
      obtain ⟨v, hv⟩ : ∃ v, E + f + more + 1 + v = e + P := ⟨e + P - (E + f + more + 1), by omega⟩
      have hE : (k.format.leastPlace + (e : Int) - (k.format.leastPlace + (f : Int)) - (more : Int) - 1 - b).toNat = v + (k.format.leastPlace + (E : Int) - b).toNat := by omega
      rw [hE, Nat.pow_add, ← Nat.mul_assoc]
      refine Nat.mul_le_mul_right _ ?_
      have hdm := Nat.div_add_mod (m * 2 ^ more) n
      have hml := Nat.mod_lt (m * 2 ^ more) hnp
      have h1 : 2 ^ (k.format.fractionBits + 1) ≤ m * 2 ^ more / n := by
        rw [Nat.le_div_iff_mul_le hnp]
        calc 2 ^ (k.format.fractionBits + 1) * n ≤ 2 ^ (k.format.fractionBits + 1) * 2 ^ (n.log2 + 1) := Nat.mul_le_mul_left _ (Nat.le_of_lt hn1)
          _ = 2 ^ (k.format.fractionBits + 2 + n.log2) := by rw [← Nat.pow_add]; congr 1; omega
          _ ≤ _ := hD
      have h2 : 1 ≤ 2 ^ v := Nat.two_pow_pos v
      calc M ≤ m * 2 ^ more / n := by omega
        _ ≤ 2 * (m * 2 ^ more / n) + (m * 2 ^ more % n != 0).toNat := by omega
        _ = (2 * (m * 2 ^ more / n) + (m * 2 ^ more % n != 0).toNat) * 1 := (Nat.mul_one _).symm
        _ ≤ _ := Nat.mul_le_mul_left _ h2
    · obtain ⟨u, hu2⟩ : ∃ u, u + (e + P) = E + f + more + 1 := ⟨E + f + more + 1 - (e + P), by omega⟩
      have hK : M * 2 ^ u * n ≤ 2 * (m * 2 ^ more) := by
        have h2 := Nat.mul_le_mul_right (2 ^ (more + 1)) h
        have l1 : m * 2 ^ e * 2 ^ P * 2 ^ (more + 1) = (2 * (m * 2 ^ more)) * 2 ^ (e + P) := by
          rw [Nat.pow_succ, Nat.pow_add]; ac_rfl
        have l2 : M * 2 ^ E * (n * 2 ^ f) * 2 ^ (more + 1) = (M * 2 ^ u * n) * 2 ^ (e + P) := by
          have l3 : M * 2 ^ E * (n * 2 ^ f) * 2 ^ (more + 1) = (M * n) * 2 ^ (E + f + more + 1) := by
            rw [show E + f + more + 1 = E + f + (more + 1) from rfl, Nat.pow_add 2 (E + f), Nat.pow_add 2 E]; ac_rfl
          have l4 : (M * 2 ^ u * n) * 2 ^ (e + P) = (M * n) * 2 ^ (u + (e + P)) := by
            rw [Nat.pow_add 2 u]; ac_rfl
          rw [l3, l4, hu2]
        rw [l1, l2] at h2
        exact Nat.le_of_mul_le_mul_right h2 (Nat.two_pow_pos _)
      have hq : M * 2 ^ u ≤ 2 * (m * 2 ^ more / n) + (m * 2 ^ more % n != 0).toNat := by
        have hdm := Nat.div_add_mod (m * 2 ^ more) n
        have hml := Nat.mod_lt (m * 2 ^ more) hnp
        generalize m * 2 ^ more = D at *
        generalize M * 2 ^ u = K at *
        generalize D / n = q at *
        cases hr : (D % n != 0)
        · simp at hr
          rw [hr] at hdm
          simp only [Bool.toNat_false]
          have h1 : K * n ≤ (2 * q) * n := by rw [Nat.mul_assoc, Nat.mul_comm q]; omega
          have := Nat.le_of_mul_le_mul_right h1 hnp
          omega
        · simp only [Bool.toNat_true]
          rcases Nat.lt_or_ge (2 * q + 1) K with h1 | h1
          · exfalso
            have h2 := Nat.mul_le_mul_right n h1
            rw [show (2 * q + 1).succ = 2 * q + 2 from rfl, Nat.add_mul, Nat.mul_assoc, Nat.mul_comm q] at h2
            omega
          · exact h1
      have hE : (k.format.leastPlace + (E : Int) - b).toNat = u + (k.format.leastPlace + (e : Int) - (k.format.leastPlace + (f : Int)) - (more : Int) - 1 - b).toNat := by omega
      rw [hE, Nat.pow_add, ← Nat.mul_assoc]
      exact Nat.mul_le_mul_right _ hq
/-- halving is exact -/
theorem halfE {x : Nat} (hx : rung .f64 x < FloatKind.f64.format.infRung) (h : 2 * FloatKind.f64.format.binade ≤ rung .f64 x) :
    ∃ r, floatBits .quo .f64 x cTwo = some r ∧ rung .f64 r + FloatKind.f64.format.binade = rung .f64 x := by
  have hb : FloatKind.f64.format.binade = 4503599627370496 := by decide
  have hi : FloatKind.f64.format.infRung = 9218868437227405312 := by decide
  obtain ⟨y, hy⟩ : ∃ y, y = FloatKind.f64.format.word false (rung .f64 x - FloatKind.f64.format.binade) := ⟨_, rfl⟩
  have ry : rung .f64 y = rung .f64 x - FloatKind.f64.format.binade := by
    rw [hy]; unfold rung; rw [word_rung_mod _ _ (by have : x % FloatKind.f64.format.signWeight = rung .f64 x := rfl; omega)]
  obtain ⟨r, hr, hle⟩ := half hx h
  obtain ⟨r', hr', hge⟩ := div_low .f64 (x := x) (y := cTwo) (t := y) hx (by decide : rung .f64 cTwo < _) (by show rung .f64 y < _; omega) (by decide) 1074 (by decide) (by
    have e := zv_step .f64 (r := rung .f64 y) (by omega)
    rw [ry, Nat.sub_add_cancel (by omega)] at e
    rw [e, ry]
    have e0 : zv .f64 (rung .f64 cTwo) = 2 * 2 ^ 1074 := by decide +kernel
    rw [e0]
    generalize zv .f64 (rung .f64 x - FloatKind.f64.format.binade) = z
    generalize (2 : Nat) ^ 1074 = E
    rw [Nat.mul_comm 2 z, Nat.mul_assoc]
    exact Nat.le_refl _)
  rw [hr] at hr'
  injection hr' with hr'
  subst hr'
  exact ⟨r, hr, by omega⟩
end Fl
end Go.Proofs.Ytfgebggfoboalaa

/- A float made whole, to the nearest even: it keeps to whole bounds. -/
set_option linter.unusedVariables false
set_option linter.unusedSimpArgs false
namespace Go.Proofs.Ytfgebggfoboalaa
namespace Fl
open Ieee
/-- a 64-bit word rounded to a whole number -/
def rneW (x : Nat) : Nat := match FloatKind.f64.decode x with
  | .nan _ _ => x
  | d => FloatKind.f64.encode (d.integral .even)
def fd (c : Int) : Nat := floatOfInt .f64 c
theorem cutze (s : Bool) (n d : Nat) : Toward.zero.cut s n d ≤ n / 2 ^ d := by
  unfold Toward.cut
  dsimp only
  rw [Nat.shiftLeft_eq, Nat.one_mul]
  show n / 2 ^ min d (n.log2 + 2) + 0 ≤ _
  rcases Nat.le_total d (n.log2 + 2) with h1 | h1
  · rw [Nat.min_eq_left h1]; exact Nat.le_refl _
  · rw [Nat.min_eq_right h1, Nat.div_eq_of_lt (Nat.lt_trans Nat.lt_log2_self (Nat.pow_lt_pow_right (by decide) (by omega)))]
    exact Nat.zero_le _
/-- what lies within 2^20 goes into an integer -/
theorem toInt_some {y : Nat} (h : rung .f64 y ≤ 1043 * 4503599627370496) : ∃ v, floatToIntVal .f64 y .i64 = some v := by
  have hf : rung .f64 y < FloatKind.f64.format.infRung := Nat.lt_of_le_of_lt h (by decide)
  obtain ⟨m, e, hr, hz⟩ := read_fin .f64 hf
  obtain ⟨D, hD⟩ : ∃ D : Nat, D = 1074 := ⟨_, rfl⟩
  have h1 : zv .f64 (1043 * 4503599627370496) = 2 ^ 20 * 2 ^ D := by rw [hD]; decide +kernel
  have h2 : FloatKind.f64.format.leastPlace = -(D : Int) := by rw [hD]; decide
  have h3 : m * 2 ^ e ≤ 2 ^ 20 * 2 ^ D := by rw [← hz, ← h1]; exact (zv_le .f64).2 h
  clear hD h1
  have hd : FloatKind.f64.decode y = .number (sgn .f64 y) m (-(D : Int) + e) := by rw [← h2]; exact hr
  have hc : Toward.zero.cut (sgn .f64 y) (m <<< (-(D : Int) + e).toNat) (-(-(D : Int) + e)).toNat ≤ 1048576 := by
    refine Nat.le_trans (cutze _ _ _) ?_
    rw [Nat.shiftLeft_eq, Nat.div_le_iff_le_mul_add_pred (Nat.two_pow_pos _)]
    rcases Nat.le_total e D with h4 | h4
    · rw [show (-(D : Int) + e).toNat = 0 by omega, show (-(-(D : Int) + e)).toNat = D - e by omega, Nat.pow_zero, Nat.mul_one]
      have h5 : 2 ^ D = 2 ^ (D - e) * 2 ^ e := by rw [← Nat.pow_add]; congr 1; omega
      rw [h5, ← Nat.mul_assoc] at h3
      have := Nat.le_of_mul_le_mul_right h3 (Nat.two_pow_pos e)
      rw [Nat.mul_comm] at this
      exact Nat.le_trans this (Nat.le_add_right _ _)
    · rw [show (-(D : Int) + e).toNat = e - D by omega, show (-(-(D : Int) + e)).toNat = 0 by omega]
      have h5 : 2 ^ e = 2 ^ (e - D) * 2 ^ D := by rw [← Nat.pow_add]; congr 1; omega
      rw [h5, ← Nat.mul_assoc] at h3
      have := Nat.le_of_mul_le_mul_right h3 (Nat.two_pow_pos D)
      simp only [Nat.pow_zero, Nat.one_mul]
      omega
  have hi : ∃ v : Int, (Datum.number (sgn .f64 y) m (-(D : Int) + e)).toInt .zero = some v ∧ -1048576 ≤ v ∧ v ≤ 1048576 := by
    unfold Datum.toInt Datum.integral
    dsimp only
    generalize Toward.zero.cut (sgn .f64 y) (m <<< (-(D : Int) + e).toNat) (-(-(D : Int) + e)).toNat = c at *
    refine ⟨_, rfl, ?_, ?_⟩ <;> (unfold signed; rw [Nat.shiftLeft_zero]; split <;> omega)
  obtain ⟨v, hv, v1, v2⟩ := hi
  refine ⟨v, ?_⟩
  unfold floatToIntVal
  rw [hd, hv]
  dsimp only
  have r1 : IntKind.i64.min ≤ v := by show (-9223372036854775808 : Int) ≤ v; omega
  have r2 : v ≤ IntKind.i64.max := by show v ≤ (9223372036854775807 : Int); omega
  rw [if_pos ⟨r1, r2⟩]
theorem sgn_word0 (k : FloatKind) {r : Nat} (h : r ≤ k.format.infRung) : sgn k (k.format.word false r) = false := by
  have h1 := k.format.infRung_lt
  have e : k.format.word false r = r := by unfold Format.word; simp
  rw [e]
  unfold sgn
  rw [Nat.div_eq_of_lt (by omega)]
  rfl

theorem sgn_wordR (k : FloatKind) (s : Bool) {r : Nat} (h : r ≤ k.format.infRung) : sgn k (k.format.word s r) = s := by
  have h1 := k.format.infRung_lt
  have h0 := sw_pos k
  cases s
  · exact sgn_word0 k h
  · have e : k.format.word true r = k.format.signWeight + r := by unfold Format.word; simp
    rw [e]
    unfold sgn
    rw [Nat.add_div_left _ h0, Nat.div_eq_of_lt (by omega)]
    rfl
theorem sgn_nearR (k : FloatKind) (s : Bool) (mag : Nat) (place : Int) : sgn k (k.format.nearest s mag place) = s := by
  unfold Format.nearest
  dsimp only
  split
  · exact sgn_wordR k s (Nat.zero_le _)
  · exact sgn_wordR k s (Nat.min_le_right ..)
theorem rne_fin {x : Nat} (h : rung .f64 x < FloatKind.f64.format.infRung) (D : Nat) (hD : FloatKind.f64.format.leastPlace = -(D : Int)) : ∃ m e : Nat, zv .f64 (rung .f64 x) = m * 2 ^ e ∧
    rneW x = FloatKind.f64.format.nearest (sgn .f64 x) (Toward.even.cut (sgn .f64 x) (m * 2 ^ (e - D)) (D - e)) 0 := by
  obtain ⟨m, e, hr, hz⟩ := read_fin .f64 h
  refine ⟨m, e, hz, ?_⟩
  have hd : FloatKind.f64.decode x = .number (sgn .f64 x) m (-(D : Int) + e) := by rw [← hD]; exact hr
  unfold rneW
  rw [hd]
  dsimp only
  show FloatKind.f64.format.nearest _ _ _ = _
  rw [Nat.shiftLeft_eq, show (-(D : Int) + e).toNat = e - D by omega, show (-(-(D : Int) + e)).toNat = D - e by omega]
theorem rne_inf {x : Nat} (h : rung .f64 x = FloatKind.f64.format.infRung) : rneW x = FloatKind.f64.format.word (sgn .f64 x) FloatKind.f64.format.infRung := by
  have hd : FloatKind.f64.decode x = .infinity (sgn .f64 x) := read_inf .f64 h
  unfold rneW
  rw [hd]
  rfl
/-- c stands for the whole number C -/
def Whl (c C : Nat) : Prop := rung .f64 c = rung .f64 (FloatKind.f64.format.nearest false C 0) ∧ zv .f64 (rung .f64 c) = C * 2 ^ 1074
theorem rne_ge {x c C : Nat} (hx : rung .f64 x ≤ FloatKind.f64.format.infRung) (hc : Whl c C) (h : rung .f64 c ≤ rung .f64 x) : rung .f64 c ≤ rung .f64 (rneW x) := by
  obtain ⟨D, hD⟩ : ∃ D : Nat, D = 1074 := ⟨_, rfl⟩
  obtain ⟨hc1, hc2⟩ := hc
  rw [← hD] at hc2
  have h2 : FloatKind.f64.format.leastPlace = -(D : Int) := by rw [hD]; decide
  clear hD
  rcases Nat.lt_or_eq_of_le hx with h1 | h1
  · obtain ⟨m, e, hz, hr⟩ := rne_fin h1 D h2
    have h3 : C * 2 ^ D ≤ m * 2 ^ e := by rw [← hz, ← hc2]; exact (zv_le .f64).2 h
    rw [hr, hc1]
    refine nearest_mono .f64 _ _ (b := FloatKind.f64.format.leastPlace) (by have := lp_neg .f64; omega) (by have := lp_neg .f64; omega) (Int.le_refl _) (Nat.mul_le_mul_right _ ?_)
    have h4 := cut_mono false (sgn .f64 x) (n := C) (d := 0) (n' := m * 2 ^ (e - D)) (d' := D - e) (by
      rw [Nat.pow_zero, Nat.mul_one]
      rcases Nat.le_total e D with h4 | h4
      · rw [show e - D = 0 by omega, Nat.pow_zero, Nat.mul_one]
        have h5 : 2 ^ D = 2 ^ (D - e) * 2 ^ e := by rw [← Nat.pow_add]; congr 1; omega
        rw [h5, ← Nat.mul_assoc] at h3
        exact Nat.le_of_mul_le_mul_right h3 (Nat.two_pow_pos e)
      · rw [show D - e = 0 by omega, Nat.pow_zero, Nat.mul_one]
        have h5 : 2 ^ e = 2 ^ (e - D) * 2 ^ D := by rw [← Nat.pow_add]; congr 1; omega
        rw [h5, ← Nat.mul_assoc] at h3
        exact Nat.le_of_mul_le_mul_right h3 (Nat.two_pow_pos D))
    rw [cut_zero] at h4
    exact h4
  · rw [rne_inf h1]
    have h5 : rung .f64 (FloatKind.f64.format.word (sgn .f64 x) FloatKind.f64.format.infRung) = FloatKind.f64.format.infRung := by unfold rung; rw [word_rung_mod _ _ (Nat.le_refl _)]
    omega
theorem rne_le {x c C : Nat} (hx : rung .f64 x ≤ FloatKind.f64.format.infRung) (hc : Whl c C) (hcf : rung .f64 c < FloatKind.f64.format.infRung) (h : rung .f64 x ≤ rung .f64 c) : rung .f64 (rneW x) ≤ rung .f64 c := by
  obtain ⟨D, hD⟩ : ∃ D : Nat, D = 1074 := ⟨_, rfl⟩
  obtain ⟨hc1, hc2⟩ := hc
  rw [← hD] at hc2
  have h2 : FloatKind.f64.format.leastPlace = -(D : Int) := by rw [hD]; decide
  clear hD
  have h1 : rung .f64 x < FloatKind.f64.format.infRung := by omega
  obtain ⟨m, e, hz, hr⟩ := rne_fin h1 D h2
  have h3 : m * 2 ^ e ≤ C * 2 ^ D := by rw [← hz, ← hc2]; exact (zv_le .f64).2 h
  rw [hr, hc1]
  refine nearest_mono .f64 _ _ (b := FloatKind.f64.format.leastPlace) (by have := lp_neg .f64; omega) (by have := lp_neg .f64; omega) (Int.le_refl _) (Nat.mul_le_mul_right _ ?_)
  have h4 := cut_mono (sgn .f64 x) false (n := m * 2 ^ (e - D)) (d := D - e) (n' := C) (d' := 0) (by
    rw [Nat.pow_zero, Nat.mul_one]
    rcases Nat.le_total e D with h4 | h4
    · rw [show e - D = 0 by omega, Nat.pow_zero, Nat.mul_one]
      have h5 : 2 ^ D = 2 ^ (D - e) * 2 ^ e := by rw [← Nat.pow_add]; congr 1; omega
      rw [h5, ← Nat.mul_assoc] at h3
      exact Nat.le_of_mul_le_mul_right h3 (Nat.two_pow_pos e)
    · rw [show D - e = 0 by omega, Nat.pow_zero, Nat.mul_one]
      have h5 : 2 ^ e = 2 ^ (e - D) * 2 ^ D := by rw [← Nat.pow_add]; congr 1; omega
      rw [h5, ← Nat.mul_assoc] at h3
      exact Nat.le_of_mul_le_mul_right h3 (Nat.two_pow_pos D))
  rw [cut_zero] at h4
  exact h4
theorem rne_sgn {x : Nat} (hx : rung .f64 x ≤ FloatKind.f64.format.infRung) : sgn .f64 (rneW x) = sgn .f64 x := by
  rcases Nat.lt_or_eq_of_le hx with h1 | h1
  · obtain ⟨m, e, hz, hr⟩ := rne_fin h1 1074 (by decide)
    rw [hr]; exact sgn_nearR _ _ _ _
  · rw [rne_inf h1]; exact sgn_wordR _ _ (Nat.le_refl _)
theorem rne_fits {x : Nat} (hx : rung .f64 x ≤ FloatKind.f64.format.infRung) : rung .f64 (rneW x) ≤ FloatKind.f64.format.infRung ∧ rneW x < 2 ^ 64 := by
  rcases Nat.lt_or_eq_of_le hx with h1 | h1
  · obtain ⟨m, e, hz, hr⟩ := rne_fin h1 1074 (by decide)
    rw [hr]
    exact ⟨nearest_fin _ _ _ _, (fv_write .f64 (d := .number (sgn .f64 x) _ 0) rfl).1⟩
  · rw [rne_inf h1]
    refine ⟨?_, (fv_write .f64 (d := .infinity (sgn .f64 x)) rfl).1⟩
    unfold rung; rw [word_rung_mod _ _ (Nat.le_refl _)]; exact Nat.le_refl _
theorem ab_of_rung {x : Nat} (h : rung .f64 x ≤ FloatKind.f64.format.infRung) : ab .f64 x = some x := by
  unfold ab rung at *
  rw [if_neg (by omega)]
end Fl
end Go.Proofs.Ytfgebggfoboalaa

/- Rates: factors; samples picked, both. -/
set_option linter.unusedVariables false
set_option linter.unusedSimpArgs false
namespace Go.Proofs.Ytfgebggfoboalaa
open Fl Go.RowKit
theorem allowR_any (a b x : Int) (w : World) :
    Calls Try.prog 50 #[.agg #[.int .i64 a, .int .i64 b], .int .i64 x] w fun e w' => e = .returned (.bool (inB x a b)) ∧ w.alloc (.cells #[.int .i64 a, .int .i64 b] 68) = w' := by
  by_cases h : a ≤ x
  all_goals
    go_enter Try.func50, Try.ntmps50
    go_wp2
    go_ret
    exact ⟨ret_bool (by simp [inB]; omega), rfl⟩
theorem allowR (a b x : Int) (bb : Bool) (w : World) (h : inB x a b = bb) :
    Calls Try.prog 50 #[.agg #[.int .i64 a, .int .i64 b], .int .i64 x] w fun e w' => e = .returned (.bool bb) ∧ w.alloc (.cells #[.int .i64 a, .int .i64 b] 68) = w' := by subst h; exact allowR_any a b x w
/-- how many samples are picked, from t on, each f-th -/
def cntP (n f t : Nat) : Nat := (n + f - 1 - t) / f
theorem cntP_lt {n f t k : Nat} (hf : 1 ≤ f) (ht : t < f) : k < cntP n f t ↔ t + k * f < n := by
  unfold cntP
  rw [← Nat.succ_le_iff, Nat.le_div_iff_mul_le (by omega), Nat.succ_mul]
  omega
theorem cntP_le {n f t : Nat} (hf : 1 ≤ f) : cntP n f t ≤ n + f := by
  unfold cntP
  exact Nat.le_trans (Nat.div_le_self _ _) (by omega)
def pickF (xs : List Nat) (f t : Nat) (k : Nat) : O := ab .f32 (wd xs (t + k * f))
def okPick (f t : Int) (n : Nat) : Bool := inB f 1 8 && inB t 0 (f - 1) && decide (n ≤ 256)
theorem okPick_nat {f t : Int} {n : Nat} (h : okPick f t n = true) : ∃ f' t' : Nat, f = f' ∧ t = t' ∧ 1 ≤ f' ∧ f' ≤ 8 ∧ t' < f' ∧ n ≤ 256 := by
  simp only [okPick, inB, Bool.and_eq_true, decide_eq_true_eq] at h
  exact ⟨f.toNat, t.toNat, by omega, by omega, by omega, by omega, by omega, by omega⟩
theorem PL.toB {n0 : Nat} {f0 : Nat → O} {w w' : World} {e : Ending} (h : PL n0 f0 w e w') : ∃ (p : Ls) (c : Nat), e = .returned (.slice p.A p.n c) ∧ Hid (p.n = n0) ∧ Hid (Gs 26 w' w.heap.size p.A p.n p.xs) ∧ Hid (Are p f0) ∧ Hid (w.Since w.heap.size w') := by
  obtain ⟨p, c, h1, h2, h3, h4, h5⟩ := h
  exact ⟨p, c, h1, Lib.hid h2, Lib.hid h3, Lib.hid h4, Lib.hid h5⟩
end Go.Proofs.Ytfgebggfoboalaa

/- Bits: the most of bits, a coder, codes that are codes. -/
set_option linter.unusedVariables false
set_option linter.unusedSimpArgs false
namespace Go.Proofs.Ytfgebggfoboalaa
open Fl Go.RowKit
def mst (b : Nat) : Nat := 2 ^ (b - 1)
theorem mst_le {b : Nat} (h1 : 2 ≤ b) (h2 : b ≤ 16) : 2 ≤ mst b ∧ mst b ≤ 32768 := by
  obtain rfl | rfl | rfl | rfl | rfl | rfl | rfl | rfl | rfl | rfl | rfl | rfl | rfl | rfl | rfl : b = 2 ∨ b = 3 ∨ b = 4 ∨ b = 5 ∨ b = 6 ∨ b = 7 ∨ b = 8 ∨ b = 9 ∨ b = 10 ∨ b = 11 ∨ b = 12 ∨ b = 13 ∨ b = 14 ∨ b = 15 ∨ b = 16 := by omega
  all_goals (unfold mst; decide)
def codV (m : Nat) : Value := .agg #[.int .i64 (-(m : Int)), .int .i64 ((m : Int) - 1), .float .f32 (floatOfInt .f32 (m : Int))]
def codZ : Value := .agg #[.int .i64 0, .int .i64 0, .float .f32 0]
def PC (v : Value) (b : Bool) (w : World) (e : Ending) (w' : World) : Prop := e = .returned (.tuple #[v, .bool b]) ∧ w.Since w.heap.size w'
end Go.Proofs.Ytfgebggfoboalaa

/- The code nearest to a number: the model's and the program's. -/
set_option linter.unusedVariables false
set_option linter.unusedSimpArgs false
namespace Go.Proofs.Ytfgebggfoboalaa
open Fl Go.RowKit
/-- what is asked of the greatest and of the least code as 64-bit numbers -/
structure Cst (m : Nat) : Prop where
  wM : Whl (fd ((m : Int) - 1)) (m - 1)
  wL : Whl (fd (-(m : Int))) m
  sM : sgn .f64 (fd ((m : Int) - 1)) = false
  sL : sgn .f64 (fd (-(m : Int))) = true
  pM : 0 < rung .f64 (fd ((m : Int) - 1))
  pL : 0 < rung .f64 (fd (-(m : Int)))
  zM : rung .f64 (fd ((m : Int) - 1)) ≤ 1042 * 4503599627370496
  zL : rung .f64 (fd (-(m : Int))) ≤ 1042 * 4503599627370496
  iM : floatToIntVal .f64 (fd ((m : Int) - 1)) .i64 = some ((m : Int) - 1)
  iL : floatToIntVal .f64 (fd (-(m : Int))) .i64 = some (-(m : Int))
set_option maxRecDepth 10000 in
theorem cst_of {b : Nat} (h1 : 2 ≤ b) (h2 : b ≤ 16) : Cst (mst b) := by
  obtain rfl | rfl | rfl | rfl | rfl | rfl | rfl | rfl | rfl | rfl | rfl | rfl | rfl | rfl | rfl : b = 2 ∨ b = 3 ∨ b = 4 ∨ b = 5 ∨ b = 6 ∨ b = 7 ∨ b = 8 ∨ b = 9 ∨ b = 10 ∨ b = 11 ∨ b = 12 ∨ b = 13 ∨ b = 14 ∨ b = 15 ∨ b = 16 := by omega
  all_goals exact ⟨⟨by decide +kernel, by decide +kernel⟩, ⟨by decide +kernel, by decide +kernel⟩, by decide +kernel, by decide +kernel, by decide +kernel, by decide +kernel, by decide +kernel, by decide +kernel, by decide +kernel, by decide +kernel⟩
def codO (m : Nat) : O → Int
  | none => 0
  | some x => if key .f64 (fd ((m : Int) - 1)) ≤ key .f64 x then (m : Int) - 1 else if key .f64 x ≤ key .f64 (fd (-(m : Int))) then -(m : Int) else (floatToIntVal .f64 (rneW x) .i64).getD 0
theorem key_pos {x : Nat} (h : sgn .f64 x = false) : key .f64 x = (rung .f64 x : Int) := by unfold key; rw [h]; rfl
theorem key_neg {x : Nat} (h : sgn .f64 x = true) : key .f64 x = -(rung .f64 x : Int) := by unfold key; rw [h]; rfl
theorem rne_hi {m x : Nat} (C : Cst m) (hx : rung .f64 x ≤ FloatKind.f64.format.infRung) : (key .f64 (fd ((m : Int) - 1)) ≤ key .f64 x → key .f64 (fd ((m : Int) - 1)) ≤ key .f64 (rneW x)) ∧ (key .f64 x ≤ key .f64 (fd ((m : Int) - 1)) → key .f64 (rneW x) ≤ key .f64 (fd ((m : Int) - 1))) := by
  have h1 := rne_sgn hx
  have p := C.pM
  have hf : rung .f64 (fd ((m : Int) - 1)) < FloatKind.f64.format.infRung := Nat.lt_of_le_of_lt C.zM (by decide)
  have h2 := rne_ge (x := x) hx C.wM
  have h3 := rne_le (x := x) hx C.wM hf
  rw [key_pos C.sM]
  cases hs : sgn .f64 x
  · rw [hs] at h1; rw [key_pos hs, key_pos h1]
    exact ⟨fun h => by have := h2 (by omega); omega, fun h => by have := h3 (by omega); omega⟩
  · rw [hs] at h1; rw [key_neg hs, key_neg h1]
    exact ⟨fun h => by omega, fun h => by omega⟩
theorem rne_lo {m x : Nat} (C : Cst m) (hx : rung .f64 x ≤ FloatKind.f64.format.infRung) : (key .f64 (fd (-(m : Int))) ≤ key .f64 x → key .f64 (fd (-(m : Int))) ≤ key .f64 (rneW x)) ∧ (key .f64 x ≤ key .f64 (fd (-(m : Int))) → key .f64 (rneW x) ≤ key .f64 (fd (-(m : Int)))) := by
  have h1 := rne_sgn hx
  have p := C.pL
  have hf : rung .f64 (fd (-(m : Int))) < FloatKind.f64.format.infRung := Nat.lt_of_le_of_lt C.zL (by decide)
  have h2 := rne_ge (x := x) hx C.wL
  have h3 := rne_le (x := x) hx C.wL hf
  rw [key_neg C.sL]
  cases hs : sgn .f64 x
  · rw [hs] at h1; rw [key_pos hs, key_pos h1]
    exact ⟨fun h => by omega, fun h => by omega⟩
  · rw [hs] at h1; rw [key_neg hs, key_neg h1]
    exact ⟨fun h => by have := h3 (by omega); omega, fun h => by have := h2 (by omega); omega⟩
theorem key_inj {x y : Nat} (hx : x < 2 ^ 64) (hy : y < 2 ^ 64) (h : key .f64 x = key .f64 y) (h0 : rung .f64 y ≠ 0) : x = y := by
  rw [← word_of .f64 (b := x) hx, ← word_of .f64 (b := y) hy]
  cases hs : sgn .f64 x <;> cases ht : sgn .f64 y
  · rw [key_pos hs, key_pos ht] at h; rw [show rung .f64 x = rung .f64 y by omega]
  · rw [key_pos hs, key_neg ht] at h; omega
  · rw [key_neg hs, key_pos ht] at h; omega
  · rw [key_neg hs, key_neg ht] at h; rw [show rung .f64 x = rung .f64 y by omega]
theorem rne_int {m x : Nat} (C : Cst m) (hx : rung .f64 x ≤ FloatKind.f64.format.infRung) (h1 : key .f64 (fd (-(m : Int))) ≤ key .f64 x) (h2 : key .f64 x ≤ key .f64 (fd ((m : Int) - 1))) : floatToIntVal .f64 (rneW x) .i64 = some ((floatToIntVal .f64 (rneW x) .i64).getD 0) := by
  have h3 := (rne_hi C hx).2 h2
  have h4 := (rne_lo C hx).1 h1
  have zM := C.zM; have zL := C.zL
  rw [key_pos C.sM] at h3; rw [key_neg C.sL] at h4
  obtain ⟨v, hv⟩ := toInt_some (y := rneW x) (by
    cases hs : sgn .f64 (rneW x)
    · rw [key_pos hs] at h3; omega
    · rw [key_neg hs] at h4; omega)
  rw [hv]; rfl
theorem fd_fits (c : Int) : ab .f64 (fd c) = some (fd c) ∧ fd c < 2 ^ 64 := ⟨(fv_write .f64 (d := .number (decide (c < 0)) c.natAbs 0) rfl).2, (fv_write .f64 (d := .number (decide (c < 0)) c.natAbs 0) rfl).1⟩
end Go.Proofs.Ytfgebggfoboalaa

/- The code nearest to a number: both. -/
set_option linter.unusedVariables false
set_option linter.unusedSimpArgs false
namespace Go.Proofs.Ytfgebggfoboalaa
open Fl Go.RowKit
theorem run_rne {P : Program} (x : Nat) (hx : ab .f64 x = some x) (w : World) : (Extern.MathFloor.toIntegral "math.RoundToEven" .even #[.float .f64 x]).run P w = .ok (.float .f64 (rneW x)) w := by
  have hn : (FloatKind.f64.decode x).isNaN = false := by
    have := read_nan (k := .f64) (b := x)
    rw [hx] at this
    exact this
  unfold rneW
  change Sem.run P (match FloatKind.f64.decode x with
    | .nan s t => if FloatKind.f64.format.quiet t = t then pure (Value.float .f64 x) else do
      let kept ← choose (.extern "math.Floor,Ceil,Trunc,RoundToEven.signallingNaN kept" 2)
      pure (Value.float .f64 (if kept == 1 then x else FloatKind.f64.encode (.nan s (FloatKind.f64.format.quiet t))))
    | d => pure (Value.float .f64 (FloatKind.f64.encode (d.integral .even)))) w = _
  cases hd : FloatKind.f64.decode x with
  | nan s t => rw [hd] at hn; cases hn
  | number s m e => rfl
  | infinity s => rfl
theorem codO_some (m x : Nat) : codO m (some x) = if key .f64 (fd ((m : Int) - 1)) ≤ key .f64 x then (m : Int) - 1 else if key .f64 x ≤ key .f64 (fd (-(m : Int))) then -(m : Int) else (floatToIntVal .f64 (rneW x) .i64).getD 0 := rfl
theorem ord_of {x c : Nat} (hx : ab .f64 x = some x) (hc : ab .f64 c = some c) : (key .f64 x < key .f64 c ∧ FloatKind.f64.format.order x c = some .lt) ∨ (key .f64 x = key .f64 c ∧ FloatKind.f64.format.order x c = some .eq) ∨ (key .f64 c < key .f64 x ∧ FloatKind.f64.format.order x c = some .gt) := by
  rw [order_key .f64 hx hc, cmp_def]
  rcases Int.lt_trichotomy (key .f64 x) (key .f64 c) with h | h | h
  · exact .inl ⟨h, by rw [if_pos h]⟩
  · exact .inr (.inl ⟨h, by rw [if_neg (by omega), if_pos h]⟩)
  · exact .inr (.inr ⟨h, by rw [if_neg (by omega), if_neg (by omega)]⟩)
end Go.Proofs.Ytfgebggfoboalaa

/- The code nearest to a number: the program's. -/
set_option linter.unusedVariables false
set_option linter.unusedSimpArgs false
namespace Go.Proofs.Ytfgebggfoboalaa
open Fl Go.RowKit
theorem run_max {P : Program} (ts : Array TypeId) (t : TypeId) (x y r : Nat) (h : (FloatKind.f64.format.order x y = some .lt ∧ r = y) ∨ (FloatKind.f64.format.order x y = some .gt ∧ r = x) ∨ (FloatKind.f64.format.order x y = some .eq ∧ x = y ∧ r = x)) (W : World) :
    (Builtin.max_ ts t #[.float .f64 x, .float .f64 y]).run P W = .ok (.float .f64 r) W := by
  rcases h with ⟨h, rfl⟩ | ⟨h, rfl⟩ | ⟨h, rfl, rfl⟩
  · simp [Builtin.max_, Builtin.max2, h]
  · simp [Builtin.max_, Builtin.max2, h]
  · simp [Builtin.max_, Builtin.max2, h]
theorem run_min {P : Program} (ts : Array TypeId) (t : TypeId) (x y r : Nat) (h : (FloatKind.f64.format.order x y = some .lt ∧ r = x) ∨ (FloatKind.f64.format.order x y = some .gt ∧ r = y) ∨ (FloatKind.f64.format.order x y = some .eq ∧ x = y ∧ r = x)) (W : World) :
    (Builtin.min_ ts t #[.float .f64 x, .float .f64 y]).run P W = .ok (.float .f64 r) W := by
  rcases h with ⟨h, rfl⟩ | ⟨h, rfl⟩ | ⟨h, rfl, rfl⟩
  · simp [Builtin.min_, Builtin.min2, h]
  · simp [Builtin.min_, Builtin.min2, h]
  · simp [Builtin.min_, Builtin.min2, h]
/-- the rounded number, brought between the bounds, as an integer -/
theorem clamp_num {m x : Nat} (C : Cst m) (hab : ab .f64 x = some x) :
    ∃ r1 r2, ((FloatKind.f64.format.order (rneW x) (fd (-(m : Int))) = some .lt ∧ r1 = fd (-(m : Int))) ∨ (FloatKind.f64.format.order (rneW x) (fd (-(m : Int))) = some .gt ∧ r1 = rneW x) ∨ (FloatKind.f64.format.order (rneW x) (fd (-(m : Int))) = some .eq ∧ rneW x = fd (-(m : Int)) ∧ r1 = rneW x)) ∧
      ((FloatKind.f64.format.order r1 (fd ((m : Int) - 1)) = some .lt ∧ r2 = r1) ∨ (FloatKind.f64.format.order r1 (fd ((m : Int) - 1)) = some .gt ∧ r2 = fd ((m : Int) - 1)) ∨ (FloatKind.f64.format.order r1 (fd ((m : Int) - 1)) = some .eq ∧ r1 = fd ((m : Int) - 1) ∧ r2 = r1)) ∧
      floatToIntVal .f64 r2 .i64 = some (codO m (some x)) := by
  have hr := rung_of_ab .f64 hab
  have hR := rne_fits hr
  have hRa := ab_of_rung hR.1
  have fM := fd_fits ((m : Int) - 1)
  have fL := fd_fits (-(m : Int))
  have hi := rne_hi C hr
  have lo := rne_lo C hr
  have kM := key_pos C.sM; have pM := C.pM
  have kL := key_neg C.sL; have pL := C.pL
  have hML : FloatKind.f64.format.order (fd (-(m : Int))) (fd ((m : Int) - 1)) = some .lt := by
    rcases ord_of fL.1 fM.1 with ⟨h, h2⟩ | ⟨h, h2⟩ | ⟨h, h2⟩
    · exact h2
    · omega
    · omega
  rw [codO_some]
  rcases ord_of hRa fL.1 with ⟨h1, o1⟩ | ⟨h1, o1⟩ | ⟨h1, o1⟩
  · refine ⟨fd (-(m : Int)), fd (-(m : Int)), .inl ⟨o1, rfl⟩, .inl ⟨hML, rfl⟩, ?_⟩
    rw [C.iL, if_neg (by omega), if_pos (by omega)]
  · have e := key_inj hR.2 fL.2 h1 (by omega)
    refine ⟨rneW x, rneW x, .inr (.inr ⟨o1, e, rfl⟩), .inl ⟨by rw [e]; exact hML, rfl⟩, ?_⟩
    rw [if_neg (by omega)]
    split
    · rw [e]; exact C.iL
    · exact rne_int C hr (by omega) (by omega)
  · rcases ord_of hRa fM.1 with ⟨h2, o2⟩ | ⟨h2, o2⟩ | ⟨h2, o2⟩
    · refine ⟨rneW x, rneW x, .inr (.inl ⟨o1, rfl⟩), .inl ⟨o2, rfl⟩, ?_⟩
      rw [if_neg (by omega), if_neg (by omega)]
      exact rne_int C hr (by omega) (by omega)
    · have e := key_inj hR.2 fM.2 h2 (by omega)
      refine ⟨rneW x, rneW x, .inr (.inl ⟨o1, rfl⟩), .inr (.inr ⟨o2, e, rfl⟩), ?_⟩
      split
      · rw [e]; exact C.iM
      · rw [if_neg (by omega)]
        exact rne_int C hr (by omega) (by omega)
    · refine ⟨rneW x, fd ((m : Int) - 1), .inr (.inl ⟨o1, rfl⟩), .inr (.inl ⟨o2, rfl⟩), ?_⟩
      rw [C.iM, if_pos (by omega)]
end Go.Proofs.Ytfgebggfoboalaa

/- Products with powers of two: the code of the product in 32 bits is that of the product in 64 bits. -/
set_option linter.unusedVariables false
set_option linter.unusedSimpArgs false
namespace Go.Proofs.Ytfgebggfoboalaa
namespace Fl
open Ieee
theorem nearest_exactJ (k : FloatKind) (neg : Bool) {r mag : Nat} {place b : Int} (hr : r < k.format.infRung) (hb : b ≤ place) (hbl : b ≤ k.format.leastPlace)
    (h : zv k r * 2 ^ (k.format.leastPlace - b).toNat = mag * 2 ^ (place - b).toNat) : rung k (k.format.nearest neg mag place) = r := by
  obtain ⟨m, e, hz, hme, _⟩ := rung_form k r
  have h0 := nearest_rung k neg hr hz hme
  have h1 : m * 2 ^ (k.format.leastPlace + (e : Int) - b).toNat = mag * 2 ^ (place - b).toNat := by
    rw [← h, hz, Nat.mul_assoc, ← Nat.pow_add]
    congr 2
    omega
  have a := nearest_mono k neg neg (mag := m) (mag' := mag) (place := k.format.leastPlace + e) (place' := place) (b := b) (by omega) hb hbl (Nat.le_of_eq h1)
  have a' := nearest_mono k neg neg (mag := mag) (mag' := m) (place := place) (place' := k.format.leastPlace + e) (b := b) hb (by omega) hbl (Nat.le_of_eq h1.symm)
  omega
theorem zv_dbl1 (k : FloatKind) (r : Nat) : ∃ r', zv k r' = zv k r * 2 := by
  have hp := bin_pos k
  by_cases h : r < k.format.binade
  · refine ⟨2 * r, ?_⟩
    by_cases h2 : 2 * r < k.format.binade
    · unfold zv; rw [if_pos h2, if_pos h]; omega
    · have e1 : 2 * r / k.format.binade = 1 := by
        rw [Nat.div_eq_sub_div hp (by omega), Nat.div_eq_of_lt (by omega)]
      have e2 : 2 * r % k.format.binade = 2 * r - k.format.binade := by
        rw [Nat.mod_eq_sub_mod (by omega), Nat.mod_eq_of_lt (by omega)]
      unfold zv
      rw [if_neg h2, if_pos h, e1, e2]
      simp
      omega
  · refine ⟨r + k.format.binade, ?_⟩
    have e1 : (r + k.format.binade) / k.format.binade = r / k.format.binade + 1 := Nat.add_div_right _ hp
    have e2 : (r + k.format.binade) % k.format.binade = r % k.format.binade := Nat.add_mod_right _ _
    have hq : 1 ≤ r / k.format.binade := (Nat.one_le_div_iff hp).2 (by omega)
    unfold zv
    rw [if_neg (by omega), if_neg h, e1, e2, Nat.mul_assoc, ← Nat.pow_succ]
    congr 2
    omega
theorem zv_dbl (k : FloatKind) (r : Nat) : ∀ j, ∃ r', zv k r' = zv k r * 2 ^ j
  | 0 => ⟨r, by rw [Nat.pow_zero, Nat.mul_one]⟩
  | j + 1 => by
    obtain ⟨s, hs⟩ := zv_dbl k r j
    obtain ⟨t, ht⟩ := zv_dbl1 k s
    exact ⟨t, by rw [ht, hs, Nat.pow_succ, Nat.mul_assoc]⟩
/-- a product that is exact -/
theorem mul_exactJ (k : FloatKind) {x c r m : Nat} (hx : rung k x < k.format.infRung) (hc : rung k c < k.format.infRung) (sc : sgn k c = false) (P : Nat) (hP : k.format.leastPlace = -(P : Int)) (hzc : zv k (rung k c) = m * 2 ^ P) (hr : r < k.format.infRung)
    (hzr : zv k r = zv k (rung k x) * m) : ∃ q, floatBits .mul k x c = some q ∧ rung k q = r ∧ sgn k q = sgn k x := by
  obtain ⟨mx, ex, h1, h2⟩ := read_fin k hx
  obtain ⟨mc, ec, h3, h4⟩ := read_fin k hc
  simp only [floatBits, Format.mul, h1, h3, Datum.product, Option.map_some]
  refine ⟨_, rfl, ?_, ?_⟩
  · show rung k (k.format.nearest _ _ _) = r
    refine nearest_exactJ k _ (b := k.format.leastPlace + k.format.leastPlace) hr (by omega) (by omega) ?_
    rw [show (k.format.leastPlace - (k.format.leastPlace + k.format.leastPlace)).toNat = P by omega,
      show (k.format.leastPlace + (ex : Int) + (k.format.leastPlace + (ec : Int)) - (k.format.leastPlace + k.format.leastPlace)).toNat = ex + ec by omega, hzr, h2, Nat.pow_add]
    have e : mx * mc * (2 ^ ex * 2 ^ ec) = (mx * 2 ^ ex) * (mc * 2 ^ ec) := by rw [Nat.mul_assoc, Nat.mul_assoc, Nat.mul_left_comm mc]
    rw [e, ← h4, hzc, Nat.mul_assoc]
  · show sgn k (k.format.nearest _ _ _) = _
    rw [sgn_nearest, sc]
    cases sgn k x <;> rfl
/-- a product with a number without sign, at least 1, is not less, and has the sign -/
theorem mul_big (k : FloatKind) {x c o t : Nat} (hx : rung k x < k.format.infRung) (hc : rung k c < k.format.infRung) (sc : sgn k c = false) (ht : rung k t < k.format.infRung) (ho : rung k o < k.format.infRung) (h1 : rung k t ≤ rung k x) (h2 : rung k o ≤ rung k c)
    (h3 : (floatBits .mul k t o).map (fun r => decide (rung k t ≤ rung k r)) = some true) : ∃ q, floatBits .mul k x c = some q ∧ rung k t ≤ rung k q ∧ sgn k q = sgn k x ∧ rung k q ≤ k.format.infRung := by
  obtain ⟨r, q, e1, e2, e3⟩ := mul_size k ht ho hx hc h1 h2
  rw [e1] at h3
  simp only [Option.map_some, Option.some.injEq, decide_eq_true_eq] at h3
  refine ⟨q, e2, by omega, ?_⟩
  obtain ⟨mx, ex, g1, g2⟩ := read_fin k hx
  obtain ⟨mc, ec, g3, g4⟩ := read_fin k hc
  simp only [floatBits, Format.mul, g1, g3, Datum.product, Option.map_some] at e2
  injection e2 with e2
  rw [← e2]
  refine ⟨?_, nearest_fin _ _ _ _⟩
  show sgn k (k.format.nearest _ _ _) = _
  rw [sgn_nearest, sc]
  cases sgn k x <;> rfl
end Fl
open Fl Go.RowKit Ieee
/-- what is asked of m as a number of 32 and of 64 bits -/
structure Pw (m : Nat) : Prop where
  f3 : rung .f32 (fI (m : Int)) < FloatKind.f32.format.infRung
  f6 : rung .f64 (fd (m : Int)) < FloatKind.f64.format.infRung
  s3 : sgn .f32 (fI (m : Int)) = false
  s6 : sgn .f64 (fd (m : Int)) = false
  z3 : zv .f32 (rung .f32 (fI (m : Int))) = m * 2 ^ 149
  z6 : zv .f64 (rung .f64 (fd (m : Int))) = m * 2 ^ 1074
  o3 : rung .f32 1065353216 ≤ rung .f32 (fI (m : Int))
  o6 : rung .f64 4607182418800017408 ≤ rung .f64 (fd (m : Int))
  i3 : ∀ s : Bool, (Datum.infinity s).product (FloatKind.f32.format.read (fI (m : Int))) = some (.infinity s)
  i6 : ∀ s : Bool, (Datum.infinity s).product (FloatKind.f64.format.read (fd (m : Int))) = some (.infinity s)
set_option maxRecDepth 10000 in
theorem pw_of {b : Nat} (h1 : 2 ≤ b) (h2 : b ≤ 16) : Pw (mst b) := by
  obtain rfl | rfl | rfl | rfl | rfl | rfl | rfl | rfl | rfl | rfl | rfl | rfl | rfl | rfl | rfl : b = 2 ∨ b = 3 ∨ b = 4 ∨ b = 5 ∨ b = 6 ∨ b = 7 ∨ b = 8 ∨ b = 9 ∨ b = 10 ∨ b = 11 ∨ b = 12 ∨ b = 13 ∨ b = 14 ∨ b = 15 ∨ b = 16 := by omega
  all_goals exact ⟨by decide +kernel, by decide +kernel, by decide +kernel, by decide +kernel, by decide +kernel, by decide +kernel, by decide +kernel, by decide +kernel, by decide +kernel, by decide +kernel⟩
def t32 : Nat := 147 * 8388608
def t64 : Nat := 1043 * 4503599627370496
theorem cod_sat {m y : Nat} (C : Cst m) (h : rung .f64 t64 ≤ rung .f64 y) : codO m (some y) = if sgn .f64 y then -(m : Int) else (m : Int) - 1 := by
  have kM := key_pos C.sM; have kL := key_neg C.sL
  have zM := C.zM; have zL := C.zL; have pM := C.pM
  have ht : rung .f64 t64 = 1043 * 4503599627370496 := by decide
  rw [codO_some]
  cases hs : sgn .f64 y
  · have ky := key_pos hs
    rw [if_pos (by omega)]; rfl
  · have ky := key_neg hs
    rw [if_neg (by omega), if_pos (by omega)]; rfl
theorem wide_some (x : Nat) : wide (some x) = some (FloatKind.f64.encode (FloatKind.f32.decode x)) := rfl
theorem opO_some (op : BinOp) (k : FloatKind) (x y : Nat) : opO op k (some x) (some y) = floatBits op k x y := rfl
theorem wide_big {p : Nat} (hp : rung .f32 p ≤ FloatKind.f32.format.infRung) (h : rung .f32 t32 ≤ rung .f32 p) : rung .f64 t64 ≤ rung .f64 (FloatKind.f64.encode (FloatKind.f32.decode p)) ∧ sgn .f64 (FloatKind.f64.encode (FloatKind.f32.decode p)) = sgn .f32 p := by
  obtain ⟨D, hD⟩ : ∃ D : Nat, D = 925 := ⟨_, rfl⟩
  rcases Nat.lt_or_eq_of_le hp with h1 | h1
  · obtain ⟨a, b⟩ := wide_zv h1 D hD
    refine ⟨?_, a⟩
    have h2 := wide_zv (b := t32) (by decide) D hD
    rw [show FloatKind.f64.encode (FloatKind.f32.decode t32) = t64 by decide +kernel] at h2
    refine (zv_le .f64).1 ?_
    rw [h2.2, b]
    exact Nat.mul_le_mul_right _ ((zv_le .f32).2 h)
  · have hr : FloatKind.f32.decode p = .infinity (sgn .f32 p) := read_inf .f32 h1
    rw [hr]
    cases sgn .f32 p <;> decide +kernel
theorem sg_word_inj {x y : Nat} (hx : x < 2 ^ 64) (hy : y < 2 ^ 64) (h1 : rung .f64 x = rung .f64 y) (h2 : sgn .f64 x = sgn .f64 y) : x = y := by
  rw [← word_of .f64 (b := x) hx, ← word_of .f64 (b := y) hy, h1, h2]
theorem op_lt {op : BinOp} {k : FloatKind} {x y q : Nat} (h : floatBits op k x y = some q) : q < 2 ^ k.format.width := by
  cases op <;> simp only [floatBits] at h <;> first | (cases h; done) | skip
  all_goals
    simp only [Format.add, Format.sub, Format.mul, Format.div, Option.map_eq_some_iff] at h
    obtain ⟨d, hd, rfl⟩ := h
    exact k.format.write_lt d
set_option maxHeartbeats 1000000 in
theorem cod_mul {m j : Nat} (hj : m = 2 ^ j) (hm : m ≤ 32768) (C : Cst m) (W : Pw m) (X : O) (hX : ∀ x, X = some x → rung .f32 x ≤ FloatKind.f32.format.infRung) :
    codO m (wide (opO .mul .f32 X (some (fI (m : Int))))) = codO m (opO .mul .f64 (wide X) (some (fd (m : Int)))) := by
  cases X with
  | none => rfl
  | some x =>
    have hx := hX x rfl
    rw [wide_some, opO_some, opO_some]
    have one6 : rung .f64 4607182418800017408 < FloatKind.f64.format.infRung := by decide
    have one3 : rung .f32 1065353216 < FloatKind.f32.format.infRung := by decide
    rcases Nat.lt_or_eq_of_le hx with h1 | h1
    · obtain ⟨D, hD⟩ : ∃ D : Nat, D = 925 := ⟨_, rfl⟩
      obtain ⟨sx, zx⟩ := wide_zv h1 D hD
      have hD3 : zv .f32 FloatKind.f32.format.infRung * 2 ^ D ≤ zv .f64 FloatKind.f64.format.infRung := by rw [hD]; decide +kernel
      have hwf : rung .f64 (FloatKind.f64.encode (FloatKind.f32.decode x)) < FloatKind.f64.format.infRung := by
        refine (zv_lt .f64).1 ?_
        rw [zx]
        have h2 : zv .f32 (rung .f32 x) < zv .f32 FloatKind.f32.format.infRung := (zv_lt .f32).2 h1
        exact Nat.lt_of_lt_of_le (Nat.mul_lt_mul_of_pos_right h2 (Nat.two_pow_pos _)) hD3
      rcases Nat.lt_or_ge (rung .f32 x) (rung .f32 t32) with h2 | h2
      · -- small: both products are exact
        obtain ⟨r, hr⟩ := zv_dbl .f32 (rung .f32 x) j
        rw [← hj] at hr
        have hrf : r < FloatKind.f32.format.infRung := by
          refine (zv_lt .f32).1 ?_
          rw [hr]
          have h3 : zv .f32 (rung .f32 x) < zv .f32 (rung .f32 t32) := (zv_lt .f32).2 h2
          have h4 : zv .f32 (rung .f32 t32) * 32768 ≤ zv .f32 FloatKind.f32.format.infRung := by decide +kernel
          have h5 : zv .f32 (rung .f32 x) * m ≤ zv .f32 (rung .f32 x) * 32768 := Nat.mul_le_mul_left _ hm
          omega
        obtain ⟨p, e1, e2, e3⟩ := mul_exactJ .f32 h1 W.f3 W.s3 149 (by decide) W.z3 hrf hr
        have hpf : rung .f32 p < FloatKind.f32.format.infRung := by rw [e2]; exact hrf
        obtain ⟨sp, zp⟩ := wide_zv hpf D hD
        have hpw : rung .f64 (FloatKind.f64.encode (FloatKind.f32.decode p)) < FloatKind.f64.format.infRung := by
          refine (zv_lt .f64).1 ?_
          rw [zp]
          have h2 : zv .f32 (rung .f32 p) < zv .f32 FloatKind.f32.format.infRung := (zv_lt .f32).2 hpf
          exact Nat.lt_of_lt_of_le (Nat.mul_lt_mul_of_pos_right h2 (Nat.two_pow_pos _)) hD3
        obtain ⟨q, g1, g2, g3⟩ := mul_exactJ .f64 hwf W.f6 W.s6 1074 (by decide) W.z6 hpw (by rw [zp, e2, hr, zx, Nat.mul_assoc, Nat.mul_comm m, ← Nat.mul_assoc])
        rw [e1, g1, wide_some]
        have : FloatKind.f64.encode (FloatKind.f32.decode p) = q := sg_word_inj (FloatKind.f64.format.write_lt _) (op_lt g1) g2.symm (by rw [sp, e3, g3, sx])
        rw [this]
      · obtain ⟨p, e1, e2, e3, e4⟩ := mul_big .f32 (t := t32) (o := 1065353216) h1 W.f3 W.s3 (by decide) one3 h2 W.o3 (by decide +kernel)
        obtain ⟨w1, w2⟩ := wide_big hx h2
        obtain ⟨q, g1, g2, g3, g4⟩ := mul_big .f64 (t := t64) (o := 4607182418800017408) hwf W.f6 W.s6 (by decide) one6 w1 W.o6 (by decide +kernel)
        obtain ⟨v1, v2⟩ := wide_big e4 e2
        rw [e1, g1, wide_some, cod_sat C v1, cod_sat C g2, v2, e3, g3, w2]
    · have hr : FloatKind.f32.format.read x = .infinity (sgn .f32 x) := read_inf .f32 h1
      have hd : FloatKind.f32.decode x = .infinity (sgn .f32 x) := hr
      have e1 : floatBits .mul .f32 x (fI (m : Int)) = some (FloatKind.f32.format.word (sgn .f32 x) FloatKind.f32.format.infRung) := by
        simp only [floatBits, Format.mul, hr, W.i3, Option.map_some]; rfl
      have hr6 : FloatKind.f64.format.read (FloatKind.f64.encode (FloatKind.f32.decode x)) = .infinity (sgn .f32 x) := by
        rw [hd]; cases sgn .f32 x <;> decide +kernel
      have e2 : floatBits .mul .f64 (FloatKind.f64.encode (FloatKind.f32.decode x)) (fd (m : Int)) = some (FloatKind.f64.format.word (sgn .f32 x) FloatKind.f64.format.infRung) := by
        simp only [floatBits, Format.mul, hr6, W.i6, Option.map_some]; rfl
      rw [e1, e2, wide_some]
      cases sgn .f32 x
      · rw [show FloatKind.f64.encode (FloatKind.f32.decode (FloatKind.f32.format.word false FloatKind.f32.format.infRung)) = FloatKind.f64.format.word false FloatKind.f64.format.infRung by decide +kernel]
      · rw [show FloatKind.f64.encode (FloatKind.f32.decode (FloatKind.f32.format.word true FloatKind.f32.format.infRung)) = FloatKind.f64.format.word true FloatKind.f64.format.infRung by decide +kernel]
end Go.Proofs.Ytfgebggfoboalaa

/- Whole parts of floats: what goes into an integer, and what is left of it. -/
set_option linter.unusedVariables false
set_option linter.unusedSimpArgs false
namespace Go.Proofs.Ytfgebggfoboalaa
namespace Fl
open Ieee
theorem cutz_eq (s : Bool) (n d : Nat) : Toward.zero.cut s n d = n / 2 ^ d := by
  unfold Toward.cut
  dsimp only
  rw [Nat.shiftLeft_eq, Nat.one_mul]
  show n / 2 ^ min d (n.log2 + 2) + 0 = _
  rcases Nat.le_total d (n.log2 + 2) with h1 | h1
  · rw [Nat.min_eq_left h1]; rfl
  · have h2 : n < 2 ^ (n.log2 + 2) := Nat.lt_trans Nat.lt_log2_self (Nat.pow_lt_pow_right (by decide) (by omega))
    rw [Nat.min_eq_right h1, Nat.div_eq_of_lt h2, Nat.div_eq_of_lt (Nat.lt_of_lt_of_le h2 (Nat.pow_le_pow_right (by decide) h1))]
/-- the whole part of a finite number's size -/
def whl (D y : Nat) : Nat := zv .f64 (rung .f64 y) / 2 ^ D
theorem toInt_whole {y D : Nat} (hD : D = 1074) (hf : rung .f64 y < FloatKind.f64.format.infRung) (hlt : whl D y < 4611686018427387904) : floatToIntVal .f64 y .i64 = some (sg (sgn .f64 y) (whl D y)) := by
  obtain ⟨m, e, hr, hz⟩ := read_fin .f64 hf
  have h2 : FloatKind.f64.format.leastPlace = -(D : Int) := by rw [hD]; decide
  clear hD
  have hd : FloatKind.f64.decode y = .number (sgn .f64 y) m (-(D : Int) + e) := by rw [← h2]; exact hr
  have hc : Toward.zero.cut (sgn .f64 y) (m <<< (-(D : Int) + e).toNat) (-(-(D : Int) + e)).toNat = whl D y := by
    rw [cutz_eq, Nat.shiftLeft_eq]
    unfold whl
    rw [hz]
    rcases Nat.le_total e D with h4 | h4
    · rw [show (-(D : Int) + e).toNat = 0 by omega, show (-(-(D : Int) + e)).toNat = D - e by omega, Nat.pow_zero, Nat.mul_one]
      have h5 : 2 ^ D = 2 ^ (D - e) * 2 ^ e := by rw [← Nat.pow_add]; congr 1; omega
      rw [h5, Nat.mul_div_mul_right _ _ (Nat.two_pow_pos e)]
    · rw [show (-(D : Int) + e).toNat = e - D by omega, show (-(-(D : Int) + e)).toNat = 0 by omega, Nat.pow_zero, Nat.div_one]
      have h5 : 2 ^ e = 2 ^ (e - D) * 2 ^ D := by rw [← Nat.pow_add]; congr 1; omega
      rw [h5, ← Nat.mul_assoc, Nat.mul_div_cancel _ (Nat.two_pow_pos D)]
  have hi : (Datum.number (sgn .f64 y) m (-(D : Int) + e)).toInt .zero = some (sg (sgn .f64 y) (whl D y)) := by
    unfold Datum.toInt Datum.integral
    dsimp only
    rw [hc]
    simp only [signed, sg, Nat.shiftLeft_zero]
  unfold floatToIntVal
  rw [hd, hi]
  dsimp only
  have r1 : IntKind.i64.min ≤ sg (sgn .f64 y) (whl D y) := by show (-9223372036854775808 : Int) ≤ _; unfold sg; split <;> omega
  have r2 : sg (sgn .f64 y) (whl D y) ≤ IntKind.i64.max := by show _ ≤ (9223372036854775807 : Int); unfold sg; split <;> omega
  rw [if_pos ⟨r1, r2⟩]
theorem zv_low {C : Nat} (h : C < 9007199254740992) : zv .f64 C = C := by
  have hb : FloatKind.f64.format.binade = 4503599627370496 := by decide
  unfold zv
  rw [hb]
  by_cases h1 : C < 4503599627370496
  · rw [if_pos h1]
  · have e1 : C / 4503599627370496 = 1 := by omega
    have e2 : C % 4503599627370496 = C - 4503599627370496 := by omega
    rw [if_neg h1, e1, e2]
    simp
    omega
theorem fd_whole {C D : Nat} {s : Bool} (hD : D = 1074) (h : C < 9007199254740992) : rung .f64 (fd (sg s C)) < FloatKind.f64.format.infRung ∧ zv .f64 (rung .f64 (fd (sg s C))) = C * 2 ^ D ∧ (C ≠ 0 → sgn .f64 (fd (sg s C)) = s) := by
  obtain ⟨r, hr⟩ := zv_dbl .f64 C D
  rw [zv_low h] at hr
  have h2 : FloatKind.f64.format.leastPlace = -(D : Int) := by rw [hD]; decide
  have hbig : zv .f64 (1076 * 4503599627370496) = 9007199254740992 * 2 ^ D := by rw [hD]; decide +kernel
  have hfin : 1076 * 4503599627370496 < FloatKind.f64.format.infRung := by decide
  have hri : r < FloatKind.f64.format.infRung := by
    refine Nat.lt_trans ((zv_lt .f64).1 ?_) hfin
    rw [hr, hbig]
    exact Nat.mul_lt_mul_of_pos_right h (Nat.two_pow_pos D)
  clear hD hbig
  have hn : (sg s C).natAbs = C := by unfold sg; split <;> omega
  have e : fd (sg s C) = FloatKind.f64.format.nearest (decide (sg s C < 0)) C 0 := by
    show FloatKind.f64.format.nearest (decide (sg s C < 0)) (sg s C).natAbs 0 = _
    rw [hn]
  have hrr : rung .f64 (fd (sg s C)) = r := by
    rw [e]
    refine nearest_exactJ .f64 _ (b := -(D : Int)) hri (by omega) (by omega) ?_
    rw [h2, show (-(D : Int) - -(D : Int)).toNat = 0 by omega, show ((0 : Int) - -(D : Int)).toNat = D by omega, Nat.pow_zero, Nat.mul_one, hr]
  refine ⟨by rw [hrr]; exact hri, by rw [hrr, hr], fun h0 => ?_⟩
  rw [e, sgn_nearR]
  unfold sg
  cases s
  · simp
  · simp; omega
theorem sub_whole {x D : Nat} (hD : D = 1074) (hf : rung .f64 x < FloatKind.f64.format.infRung) (hlt : whl D x < 9007199254740992) : ∃ d, floatBits .sub .f64 x (fd (sg (sgn .f64 x) (whl D x))) = some d ∧ rung .f64 d ≤ 4607182418800017408 := by
  obtain ⟨hv1, hv2, hv3⟩ := fd_whole (s := sgn .f64 x) hD hlt
  have h2 : FloatKind.f64.format.leastPlace = -(D : Int) := by rw [hD]; decide
  have hone : rung .f64 (FloatKind.f64.format.nearest false 1 0) = 4607182418800017408 := by decide
  clear hD
  obtain ⟨m, e, hm, hz⟩ := read_fin .f64 hf
  obtain ⟨n, f, hn, hz2⟩ := read_fin .f64 hv1
  have hdm : zv .f64 (rung .f64 x) = whl D x * 2 ^ D + zv .f64 (rung .f64 x) % 2 ^ D := by unfold whl; rw [Nat.mul_comm]; exact (Nat.div_add_mod _ _).symm
  have hmod := Nat.mod_lt (zv .f64 (rung .f64 x)) (Nat.two_pow_pos D)
  obtain ⟨C, hC⟩ : ∃ C, C = whl D x := ⟨_, rfl⟩
  rw [← hC] at hv1 hv2 hv3 hn hz2 hdm hlt ⊢
  simp only [floatBits, Format.sub, hm, hn, Datum.opposite, Datum.sum, Option.map_some]
  refine ⟨_, rfl, ?_⟩
  rw [← hone]
  refine nearest_mono .f64 _ _ (b := FloatKind.f64.format.leastPlace) (by omega) (by omega) (by omega) ?_
  rw [h2]
  have e1 : (min (-(D : Int) + (e : Int)) (-(D : Int) + (f : Int)) - -(D : Int)).toNat = min e f := by omega
  have e3 : (-(D : Int) + (e : Int) - min (-(D : Int) + (e : Int)) (-(D : Int) + (f : Int))).toNat = e - min e f := by omega
  have e4 : (-(D : Int) + (f : Int) - min (-(D : Int) + (e : Int)) (-(D : Int) + (f : Int))).toNat = f - min e f := by omega
  have e5 : ((0 : Int) - -(D : Int)).toNat = D := by omega
  rw [e1, e3, e4, e5]
  have sgd : ∀ (s : Bool) (a u : Nat), signed s a u = sg s (a * 2 ^ u) := by intro s a u; simp only [signed, sg, Nat.shiftLeft_eq]
  rw [sgd, sgd]
  have a1 : m * 2 ^ (e - min e f) * 2 ^ min e f = C * 2 ^ D + zv .f64 (rung .f64 x) % 2 ^ D := by
    rw [Nat.mul_assoc, ← Nat.pow_add, Nat.sub_add_cancel (Nat.min_le_left ..), ← hz]; exact hdm
  have a2 : n * 2 ^ (f - min e f) * 2 ^ min e f = C * 2 ^ D := by
    rw [Nat.mul_assoc, ← Nat.pow_add, Nat.sub_add_cancel (Nat.min_le_right ..), ← hz2]; exact hv2
  generalize zv .f64 (rung .f64 x) % 2 ^ D = R at *
  generalize m * 2 ^ (e - min e f) = M at *
  generalize n * 2 ^ (f - min e f) = N' at *
  have hle : N' ≤ M := Nat.le_of_mul_le_mul_right (show N' * 2 ^ min e f ≤ M * 2 ^ min e f by rw [a1, a2]; omega) (Nat.two_pow_pos _)
  have hdiff : (M - N') * 2 ^ min e f = R := by rw [Nat.sub_mul, a1, a2]; omega
  have hab : (sg (sgn .f64 x) M + sg (!sgn .f64 (fd (sg (sgn .f64 x) C))) N').natAbs = M - N' := by
    by_cases h0 : C = 0
    · have hN : N' = 0 := by
        rw [h0, Nat.zero_mul] at a2
        rcases Nat.mul_eq_zero.1 a2 with h | h
        · exact h
        · have := Nat.two_pow_pos (min e f); omega
      rw [hN]
      unfold sg
      generalize sgn .f64 (fd (sg (sgn .f64 x) C)) = t
      generalize sgn .f64 x = u
      cases u <;> cases t <;> simp
    · rw [hv3 h0]
      unfold sg
      cases sgn .f64 x
      · simp; omega
      · simp; omega
  rw [hab, hdiff, Nat.one_mul]
  exact Nat.le_of_lt hmod
end Fl
end Go.Proofs.Ytfgebggfoboalaa

/- Signs of sums, products, quotients; the part of a spread in which a number is. -/
set_option linter.unusedVariables false
set_option linter.unusedSimpArgs false
namespace Go.Proofs.Ytfgebggfoboalaa
namespace Fl
open Ieee
theorem add_sign (k : FloatKind) {x y : Nat} (hx : Fin k x) (hy : Fin k y) (sy : sgn k y = false) (h : sgn k x = false ∨ rung k x ≤ rung k y) :
    ∃ r, floatBits .add k x y = some r ∧ sgn k r = false := by
  obtain ⟨m, e, hm, hz⟩ := read_fin k hx
  obtain ⟨n, f, hn, hz2⟩ := read_fin k hy
  rw [sy] at hn
  simp only [floatBits, Format.add, hm, hn, Datum.sum, Option.map_some]
  refine ⟨_, rfl, ?_⟩
  refine (sgn_nearest k _ _ _).trans ?_
  have e1 : (min (k.format.leastPlace + (e : Int)) (k.format.leastPlace + (f : Int)) - k.format.leastPlace).toNat = min e f := by omega
  have e3 : (k.format.leastPlace + (e : Int) - min (k.format.leastPlace + (e : Int)) (k.format.leastPlace + (f : Int))).toNat = e - min e f := by omega
  have e4 : (k.format.leastPlace + (f : Int) - min (k.format.leastPlace + (e : Int)) (k.format.leastPlace + (f : Int))).toNat = f - min e f := by omega
  rw [e3, e4]
  have sgd : ∀ (s : Bool) (a u : Nat), signed s a u = sg s (a * 2 ^ u) := by intro s a u; simp only [signed, sg, Nat.shiftLeft_eq]
  rw [sgd, sgd]
  have hge : 0 ≤ sg (sgn k x) (m * 2 ^ (e - min e f)) + sg false (n * 2 ^ (f - min e f)) := by
    rcases h with h | h
    · rw [h]
      generalize m * 2 ^ (e - min e f) = p1
      generalize n * 2 ^ (f - min e f) = p2
      simp only [sg]; simp; omega
    · have c := (zv_le k).2 h
      rw [hz, hz2] at c
      have c2 : m * 2 ^ (e - min e f) ≤ n * 2 ^ (f - min e f) := by
        have hp : 0 < 2 ^ min e f := Nat.two_pow_pos _
        refine Nat.le_of_mul_le_mul_right ?_ hp
        rw [Nat.mul_assoc, Nat.mul_assoc, ← Nat.pow_add, ← Nat.pow_add, Nat.sub_add_cancel (Nat.min_le_left ..), Nat.sub_add_cancel (Nat.min_le_right ..)]
        exact c
      generalize m * 2 ^ (e - min e f) = p1 at *
      generalize n * 2 ^ (f - min e f) = p2 at *
      cases sgn k x <;> simp only [sg] <;> simp <;> omega
  split
  · simp
  · exact decide_eq_false (by omega)
theorem mul_sign (k : FloatKind) {x y : Nat} (hx : Fin k x) (hy : Fin k y) : ∃ r, floatBits .mul k x y = some r ∧ sgn k r = (sgn k x ^^ sgn k y) := by
  obtain ⟨m, e, hm, hz⟩ := read_fin k hx
  obtain ⟨n, f, hn, hz2⟩ := read_fin k hy
  simp only [floatBits, Format.mul, hm, hn, Datum.product, Option.map_some]
  exact ⟨_, rfl, sgn_nearest k _ _ _⟩
theorem div_sign (k : FloatKind) {x y : Nat} (hx : Fin k x) (hy : Fin k y) (hy0 : rung k y ≠ 0) : ∃ r, floatBits .quo k x y = some r ∧ sgn k r = (sgn k x ^^ sgn k y) := by
  obtain ⟨m, e, hm, hz⟩ := read_fin k hx
  obtain ⟨n, f, hn, hz2⟩ := read_fin k hy
  have hn0 : n ≠ 0 := by
    intro e0
    subst e0
    rw [Nat.zero_mul] at hz2
    exact hy0 ((zv_inj k (r := rung k y) (s := 0)).1 (by rw [zv_zero]; exact hz2))
  simp only [floatBits, Format.div, hm, hn, Datum.quotient, if_neg hn0, Option.map_some]
  exact ⟨_, rfl, sgn_nearest k _ _ _⟩
def cA : Nat := 4607182418263146496
def cO : Nat := 4607182418800017408
def cT : Nat := 4611686018427387904
def cS : Nat := 4611686018158952448
def cH : Nat := 4607182418531581952
theorem part_tab : ∀ p : _root_.Fin 65, 1 ≤ p.val → (match floatBits .mul .f64 cH (fd (p.val : Nat)) with | some u => decide (zv .f64 (rung .f64 u) < p.val * 2 ^ 1074) && decide (rung .f64 u < FloatKind.f64.format.infRung) | none => false) = true := by decide +kernel
theorem fd_tab : ∀ p : _root_.Fin 65, rung .f64 (fd (p.val : Nat)) < FloatKind.f64.format.infRung ∧ sgn .f64 (fd (p.val : Nat)) = false ∧ ab .f64 (fd (p.val : Nat)) = some (fd (p.val : Nat)) := by decide +kernel
theorem part_sum {b : Nat} (hb : ab .f32 b = some b) (h : rung .f32 b ≤ 1065353216) (h2 : rung .f32 b ≤ 1065353215 ∨ b = 3212836864) :
    ∃ s, floatBits .add .f64 (FloatKind.f64.encode (FloatKind.f32.decode b)) cO = some s ∧ sgn .f64 s = false ∧ rung .f64 s ≤ rung .f64 cS := by
  have inf32 : FloatKind.f32.format.infRung = 2139095040 := by decide
  obtain ⟨D, hD⟩ : ∃ D : Nat, D = 925 := ⟨_, rfl⟩
  obtain ⟨w1, w2⟩ := wide_zv (b := b) (by omega) D hD
  obtain ⟨o1, o2⟩ := wide_zv (b := 1065353216) (by decide) D hD
  obtain ⟨a1, a2⟩ := wide_zv (b := 1065353215) (by decide) D hD
  have eO : FloatKind.f64.encode (FloatKind.f32.decode 1065353216) = cO := by decide +kernel
  have eA : FloatKind.f64.encode (FloatKind.f32.decode 1065353215) = cA := by decide +kernel
  rw [eO] at o2; rw [eA] at a2
  have le1 : rung .f64 (FloatKind.f64.encode (FloatKind.f32.decode b)) ≤ rung .f64 cO := (zv_le .f64).1 (by rw [w2, o2]; exact Nat.mul_le_mul_right _ ((zv_le .f32).2 (by rw [show rung .f32 1065353216 = 1065353216 by decide]; exact h)))
  have fO : Fin .f64 cO := by unfold Fin; decide
  have fW : Fin .f64 (FloatKind.f64.encode (FloatKind.f32.decode b)) := by unfold Fin at fO ⊢; omega
  obtain ⟨s, hs, hsg⟩ := add_sign .f64 fW fO (by decide) (.inr le1)
  refine ⟨s, hs, hsg, ?_⟩
  rcases h2 with h2 | rfl
  · have le2 : rung .f64 (FloatKind.f64.encode (FloatKind.f32.decode b)) ≤ rung .f64 cA := (zv_le .f64).1 (by rw [w2, a2]; exact Nat.mul_le_mul_right _ ((zv_le .f32).2 (by rw [show rung .f32 1065353215 = 1065353215 by decide]; exact h2)))
    obtain ⟨r, t, h3, h4, h5⟩ := add_size .f64 fW fO (c := cA) (d := cO) (by unfold Fin; decide) fO (by decide) (by decide) le2 (Nat.le_refl _)
    rw [hs] at h3; cases h3
    have e4 : floatBits .add .f64 cA cO = some cS := by decide +kernel
    rw [e4] at h4; cases h4
    exact h5
  · have e4 : floatBits .add .f64 (FloatKind.f64.encode (FloatKind.f32.decode 3212836864)) cO = some 0 := by decide +kernel
    rw [hs] at e4; cases e4
    decide
theorem part_of {b p : Nat} (hb32 : b < 4294967296) (hge : geO (ab .f32 b) (some 3212836864) = true) (hlt : ltO (ab .f32 b) (some 1065353216) = true) (hp : 1 ≤ p) (hp2 : p ≤ 64) :
    ∃ s h m q : Nat, opO .add .f64 (wide (ab .f32 b)) (some cO) = some s ∧ opO .quo .f64 (some s) (some cT) = some h ∧ opO .mul .f64 (some h) (some (fd (p : Nat))) = some m ∧ floatToIntVal .f64 m .i64 = some (q : Int) ∧ q < p := by
  have hb : ab .f32 b = some b := by
    cases e : ab .f32 b with
    | none => rw [e] at hlt; exact absurd hlt (by decide)
    | some c => rw [ab_some e]
  have hc1 : ab .f32 1065353216 = some 1065353216 := by decide
  have hc2 : ab .f32 3212836864 = some 3212836864 := by decide
  rw [hb] at hge hlt ⊢
  have k1 := order_key .f32 hb hc1
  have k2 := order_key .f32 hb hc2
  have e1 : key .f32 1065353216 = 1065353216 := by decide
  have e2 : key .f32 3212836864 = -1065353216 := by decide
  rw [e1] at k1; rw [e2] at k2
  have l1 : key .f32 b < 1065353216 := by
    have h1 : (FloatKind.f32.format.order b 1065353216 == some .lt) = true := hlt
    rw [k1] at h1
    simp only [beq_iff_eq, Option.some.injEq] at h1
    exact Int.compare_eq_lt.1 h1
  have l2 : -1065353216 ≤ key .f32 b := by
    have h1 : (FloatKind.f32.format.order b 3212836864 == some .gt || FloatKind.f32.format.order b 3212836864 == some .eq) = true := hge
    rw [k2] at h1
    simp only [Bool.or_eq_true, beq_iff_eq, Option.some.injEq] at h1
    rcases h1 with h | h
    · have := Int.compare_eq_gt.1 h; omega
    · have := Int.compare_eq_eq.1 h; omega
  have hr : rung .f32 b ≤ 1065353216 ∧ (rung .f32 b ≤ 1065353215 ∨ b = 3212836864) := by
    unfold key sg at l1 l2
    cases hs : sgn .f32 b
    · rw [hs] at l1; simp at l1; omega
    · rw [hs] at l2; simp at l2
      have hs2 := hs
      unfold sgn at hs2
      rw [sw32] at hs2
      have hd : b / 2147483648 % 2 = 1 := by simpa using hs2
      have hrr : rung .f32 b = b % 2147483648 := by unfold rung; rw [sw32]
      omega
  obtain ⟨s, h3, h4, h5⟩ := part_sum hb hr.1 hr.2
  have inf64 : FloatKind.f64.format.infRung = 9218868437227405312 := by decide
  have rS : rung .f64 cS = 4611686018158952448 := by decide
  have rT : rung .f64 cT = 4611686018427387904 := by decide
  have rH : rung .f64 cH = 4607182418531581952 := by decide
  have fs : Fin .f64 s := by unfold Fin; omega
  have fT : Fin .f64 cT := by unfold Fin; omega
  have fH : Fin .f64 cH := by unfold Fin; omega
  obtain ⟨h, q1, q2⟩ := div_sign .f64 fs fT (by omega)
  obtain ⟨D, hD⟩ : ∃ D : Nat, D = 1074 := ⟨_, rfl⟩
  obtain ⟨h', q3, q4⟩ := div_size .f64 fs fT fH (by omega) D (by rw [hD]; decide) (by
    have c1 := (zv_le .f64).2 h5
    have c2 : zv .f64 (rung .f64 cS) * 2 ^ D ≤ zv .f64 (rung .f64 cH) * zv .f64 (rung .f64 cT) := by rw [hD]; decide +kernel
    exact Nat.le_trans (Nat.mul_le_mul_right _ c1) c2)
  rw [q1] at q3; cases q3
  have sT : sgn .f64 cT = false := by decide
  rw [h4, sT] at q2
  have fh : Fin .f64 h := by unfold Fin; omega
  obtain ⟨fp1, fp2, fp3⟩ := fd_tab ⟨p, by omega⟩
  have tb := part_tab ⟨p, by omega⟩ hp
  dsimp only at fp1 fp2 fp3 tb
  obtain ⟨m, q5, q6⟩ := mul_sign .f64 fh (show Fin .f64 (fd (p : Nat)) from fp1)
  obtain ⟨m', u, q7, q8, q9⟩ := mul_size .f64 fh (show Fin .f64 (fd (p : Nat)) from fp1) fH (show Fin .f64 (fd (p : Nat)) from fp1) q4 (Nat.le_refl _)
  rw [q5] at q7; cases q7
  rw [q8] at tb
  simp only [Bool.and_eq_true, decide_eq_true_eq] at tb
  have q2' : sgn .f64 h = false := q2
  rw [q2', fp2] at q6
  have fm : rung .f64 m < FloatKind.f64.format.infRung := by omega
  have hw : whl D m < p := by
    unfold whl
    have c3 := (zv_le .f64).2 q9
    have tb1 : zv .f64 (rung .f64 u) < p * 2 ^ D := by rw [hD]; exact tb.1
    clear tb
    exact Nat.div_lt_of_lt_mul (by rw [Nat.mul_comm]; exact Nat.lt_of_le_of_lt c3 tb1)
  have hti := toInt_whole hD fm (by omega)
  have q6' : sgn .f64 m = false := q6
  rw [q6'] at hti
  have aw : ab .f64 (FloatKind.f64.encode (FloatKind.f32.decode b)) = some (FloatKind.f64.encode (FloatKind.f32.decode b)) := ab_wide hb
  refine ⟨s, h, m, whl D m, ?_, q1, q5, ?_, hw⟩
  · have hwd : wide (some b) = some (FloatKind.f64.encode (FloatKind.f32.decode b)) := rfl
    rw [hwd]
    exact h3
  · rw [hti]; simp [sg]
end Fl
end Go.Proofs.Ytfgebggfoboalaa

