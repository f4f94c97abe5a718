/- Joined: Vw Va Vb Vq Vx Jo Jb Jh Jp Jq Jr Js Ua Vy Vz Wd We Ca Cc Cd Ce -/
import Derived.Test.YtmdnalkfndoicaaSr
import Derived.Test.YtmdnalkfndoicaaFe
import Derived.Test.YtmdnalkfndoicaaFw
import Derived.Test.YtmdnalkfndoicaaLq
import Derived.Test.YtmdnalkfndoicaaFj
import Derived.Test.YtmdnalkfndoicaaGa
import Derived.Test.YtmdnalkfndoicaaEh
import Derived.Test.YtmdnalkfndoicaaRz
import Derived.Test.YtmdnalkfndoicaaLw
import Derived.Test.YtmdnalkfndoicaaFi
import Derived.Test.YtmdnalkfndoicaaJa
import Derived.Test.YtmdnalkfndoicaaHb
/- Sines of phases: both sides. -/
set_option linter.unusedVariables false
set_option linter.unusedSimpArgs false
namespace Go.Proofs.Ytmdnalkfndoicaa
open Fl Go.RowKit Ieee
theorem cutz (s : Bool) (n d : Nat) (h : n < 2 ^ d) : Toward.zero.cut s n d = 0 := by
  unfold Toward.cut
  dsimp only
  rw [Nat.shiftLeft_eq, Nat.one_mul]
  rw [Nat.div_eq_of_lt ?_]
  · rfl
  · rcases Nat.le_total d (n.log2 + 2) with h1 | h1
    · rw [Nat.min_eq_left h1]; exact h
    · rw [Nat.min_eq_right h1]
      exact Nat.lt_trans Nat.lt_log2_self (Nat.pow_lt_pow_right (by decide) (by omega))
theorem toInt_small {y : Nat} (h : rung .f64 y < rung .f64 cOne) : floatToIntVal .f64 y .i64 = some 0 := by
  have hf : rung .f64 y < FloatKind.f64.format.infRung := Nat.lt_trans h (by decide)
  obtain ⟨m, e, hr, hz⟩ := read_fin .f64 hf
  obtain ⟨D, hD⟩ : ∃ D : Nat, D = 1074 := ⟨_, rfl⟩
  have h1 : zv .f64 (rung .f64 cOne) = 2 ^ D := by rw [hD]; decide +kernel
  have h2 : FloatKind.f64.format.leastPlace = -(D : Int) := by rw [hD]; decide
  have h3 : m * 2 ^ e < 2 ^ D := by rw [← hz, ← h1]; exact (zv_lt .f64).2 h
  clear hD h1
  have hd : FloatKind.f64.decode y = .number (sgn .f64 y) m (-(D : Int) + e) := by rw [← h2]; exact hr
  have hi : (Datum.number (sgn .f64 y) m (-(D : Int) + e)).toInt .zero = some 0 := by
    unfold Datum.toInt Datum.integral
    dsimp only
    have hc : Toward.zero.cut (sgn .f64 y) (m <<< (-(D : Int) + e).toNat) (-(-(D : Int) + e)).toNat = 0 := by
      refine cutz _ _ _ ?_
      rw [Nat.shiftLeft_eq]
      rcases Nat.le_total e D with h4 | h4
      · rw [show (-(D : Int) + e).toNat = 0 by omega, show (-(-(D : Int) + e)).toNat = D - e by omega, Nat.pow_zero, Nat.mul_one]
        have h5 : 2 ^ D = 2 ^ (D - e) * 2 ^ e := by rw [← Nat.pow_add]; congr 1; omega
        rw [h5] at h3
        exact Nat.lt_of_mul_lt_mul_right h3
      · have h5 : 2 ^ D ≤ 2 ^ e := Nat.pow_le_pow_right (by decide) h4
        have h6 : m = 0 := by
          rcases Nat.eq_zero_or_pos m with h6 | h6
          · exact h6
          · have := Nat.le_mul_of_pos_left (2 ^ e) h6
            omega
        subst h6
        rw [Nat.zero_mul]
        exact Nat.two_pow_pos _
    rw [hc]
    simp [signed]
  unfold floatToIntVal
  rw [hd, hi]
  rfl
def p2 (k : Nat) : Nat := (1023 + k) * 4503599627370496
theorem mulC {x y c d M : Nat} (hx : rung .f64 x ≤ rung .f64 c) (hy : rung .f64 y ≤ rung .f64 d) (hc : Fin .f64 c) (hd : Fin .f64 d) (hM : (floatBits .mul .f64 c d).map (fun m => decide (rung .f64 m ≤ rung .f64 M)) = some true) : ∃ m, opO .mul .f64 (some x) (some y) = some m ∧ rung .f64 m ≤ rung .f64 M := by
  obtain ⟨m, m', hm, hm', hle⟩ := mul_size .f64 (Nat.lt_of_le_of_lt hx hc) (Nat.lt_of_le_of_lt hy hd) hc hd hx hy
  rw [hm'] at hM
  exact ⟨m, hm, Nat.le_trans hle (by simpa using hM)⟩
theorem addC {x y c d M : Nat} (hx : rung .f64 x ≤ rung .f64 c) (hy : rung .f64 y ≤ rung .f64 d) (hc : Fin .f64 c) (hd : Fin .f64 d) (sc : sgn .f64 c = false) (sd : sgn .f64 d = false) (hM : (floatBits .add .f64 c d).map (fun m => decide (rung .f64 m ≤ rung .f64 M)) = some true) : ∃ m, opO .add .f64 (some x) (some y) = some m ∧ rung .f64 m ≤ rung .f64 M := by
  obtain ⟨m, m', hm, hm', hle⟩ := add_size .f64 (Nat.lt_of_le_of_lt hx hc) (Nat.lt_of_le_of_lt hy hd) hc hd sc sd hx hy
  rw [hm'] at hM
  exact ⟨m, hm, Nat.le_trans hle (by simpa using hM)⟩
theorem subC {x y c d M : Nat} (hx : rung .f64 x ≤ rung .f64 c) (hy : rung .f64 y ≤ rung .f64 d) (hc : Fin .f64 c) (hd : Fin .f64 d) (sc : sgn .f64 c = false) (sd : sgn .f64 d = false) (hM : (floatBits .add .f64 c d).map (fun m => decide (rung .f64 m ≤ rung .f64 M)) = some true) : ∃ m, opO .sub .f64 (some x) (some y) = some m ∧ rung .f64 m ≤ rung .f64 M := by
  obtain ⟨m, m', hm, hm', hle⟩ := sub_size .f64 (Nat.lt_of_le_of_lt hx hc) (Nat.lt_of_le_of_lt hy hd) hc hd sc sd hx hy
  rw [hm'] at hM
  exact ⟨m, hm, Nat.le_trans hle (by simpa using hM)⟩
theorem divC {x y c : Nat} (hx : rung .f64 x ≤ rung .f64 c) (hc : Fin .f64 c) (hy : rung .f64 cOne ≤ rung .f64 y) (hf : Fin .f64 y) : ∃ q, opO .quo .f64 (some x) (some y) = some q ∧ rung .f64 q ≤ rung .f64 c := by
  refine div_size .f64 (x := x) (y := y) (t := c) (Nat.lt_of_le_of_lt hx hc) hf hc (by
    have : 0 < rung .f64 cOne := by decide
    omega) 1074 (by decide) ?_
  have e1 := (zv_le .f64).2 hy
  rw [show zv .f64 (rung .f64 cOne) = 2 ^ 1074 by decide +kernel] at e1
  exact Nat.mul_le_mul ((zv_le .f64).2 hx) e1
def sinK (i : Nat) : Int := ((2 * (8 - i) * (2 * (8 - i) + 1) : Nat) : Int)
def sinP (u : O) : Nat → O
  | 0 => some cOne
  | i + 1 => opO .sub .f64 (some cOne) (opO .quo .f64 (opO .mul .f64 u (sinP u i)) (some (floatOfInt .f64 (sinK i))))
theorem sinW : ∀ i < 8, (floatBits .mul .f64 (p2 10) (p2 (11 * i))).map (fun m => decide (rung .f64 m ≤ rung .f64 (p2 (11 * i + 10)))) = some true ∧ (floatBits .add .f64 cOne (p2 (11 * i + 10))).map (fun m => decide (rung .f64 m ≤ rung .f64 (p2 (11 * (i + 1))))) = some true
    ∧ rung .f64 (p2 (11 * i)) < FloatKind.f64.format.infRung ∧ rung .f64 (p2 (11 * i + 10)) < FloatKind.f64.format.infRung ∧ sgn .f64 (p2 (11 * i + 10)) = false ∧ rung .f64 (floatOfInt .f64 (sinK i)) < FloatKind.f64.format.infRung ∧ rung .f64 cOne ≤ rung .f64 (floatOfInt .f64 (sinK i)) := by decide +kernel
theorem sinP_size {u : Nat} (h : rung .f64 u ≤ rung .f64 (p2 10)) : ∀ i, i ≤ 8 → ∃ p, sinP (some u) i = some p ∧ rung .f64 p ≤ rung .f64 (p2 (11 * i))
  | 0, _ => ⟨cOne, rfl, by decide⟩
  | i + 1, hi => by
    obtain ⟨p, hp, hb⟩ := sinP_size h i (by omega)
    obtain ⟨w1, w2, w3, w4, w5, w6, w7⟩ := sinW i (by omega)
    obtain ⟨m, hm, hmb⟩ := mulC h hb (by decide : rung .f64 (p2 10) < _) w3 w1
    obtain ⟨q, hq, hqb⟩ := divC hmb w4 w7 w6
    obtain ⟨r, hr, hrb⟩ := subC (c := cOne) (Nat.le_refl (rung .f64 cOne)) hqb (by decide : rung .f64 cOne < _) w4 (by decide) w5 w2
    refine ⟨r, ?_, hrb⟩
    unfold sinP
    rw [hp, hm, hq, hr]
def ser (z : O) : O := opO .mul .f64 z (sinP (opO .mul .f64 z z) 8)
theorem ser_size {z : Nat} (h : rung .f64 z ≤ rung .f64 (p2 5)) : ∃ r, ser (some z) = some r ∧ rung .f64 r ≤ rung .f64 w100 := by
  obtain ⟨u, hu, hub⟩ := mulC (M := p2 10) h h (by decide : rung .f64 (p2 5) < _) (by decide : rung .f64 (p2 5) < _) (by decide +kernel)
  obtain ⟨p, hp, hpb⟩ := sinP_size hub 8 (Nat.le_refl _)
  obtain ⟨r, hr, hrb⟩ := mulC (M := w100) h hpb (by decide : rung .f64 (p2 5) < _) (by decide : rung .f64 (p2 (11 * 8)) < _) (by decide +kernel)
  refine ⟨r, ?_, hrb⟩
  unfold ser
  rw [hu, hp, hr]
def cHalf : Nat := 4602678819172646912
def cQuar : Nat := 4598175219545276416
def c2pi : Nat := 4618760256179416344
def lt64 (a b : O) : Bool := ordO .f64 a b == some .lt
def gt64 (a b : O) : Bool := ordO .f64 a b == some .gt
def eq64 (a b : O) : Bool := ordO .f64 a b == some .eq
def ge64 (a b : O) : Bool := gt64 a b || eq64 a b
def sinF1 (f : O) : O := if lt64 f (some 0) then opO .add .f64 f (some cOne) else f
def sinB (f : O) : Bool := ge64 f (some cHalf)
def sinF2 (f : O) : O := if sinB f then opO .sub .f64 f (some cHalf) else f
def sinF3 (f : O) : O := if gt64 f (some cQuar) then opO .sub .f64 (some cHalf) f else f
def sinS (f1 : O) : O := ser (opO .mul .f64 (sinF3 (sinF2 f1)) (some c2pi))
def sinR (f0 : O) : O := if sinB (sinF1 f0) then (sinS (sinF1 f0)).map (Op.negFloat .f64) else sinS (sinF1 f0)
def w25 : Nat := 4612811918334230528
def w3 : Nat := 4613937818241073152
theorem sinS_size {f : Nat} (h : rung .f64 f ≤ rung .f64 (p2 1)) : ∃ r, sinS (some f) = some r ∧ rung .f64 r ≤ rung .f64 w100 := by
  obtain ⟨a, ha, hab⟩ : ∃ a, sinF2 (some f) = some a ∧ rung .f64 a ≤ rung .f64 w25 := by
    unfold sinF2
    split
    · exact subC h (Nat.le_refl (rung .f64 cHalf)) (by decide : rung .f64 (p2 1) < _) (by decide : rung .f64 cHalf < _) (by decide) (by decide) (by decide +kernel)
    · exact ⟨f, rfl, Nat.le_trans h (by decide)⟩
  obtain ⟨b, hb, hbb⟩ : ∃ b, sinF3 (some a) = some b ∧ rung .f64 b ≤ rung .f64 w3 := by
    unfold sinF3
    split
    · exact subC (Nat.le_refl (rung .f64 cHalf)) hab (by decide : rung .f64 cHalf < _) (by decide : rung .f64 w25 < _) (by decide) (by decide) (by decide +kernel)
    · exact ⟨a, rfl, Nat.le_trans hab (by decide)⟩
  obtain ⟨z, hz, hzb⟩ := mulC (M := p2 5) hbb (Nat.le_refl (rung .f64 c2pi)) (by decide : rung .f64 w3 < _) (by decide : rung .f64 c2pi < _) (by decide +kernel)
  unfold sinS
  rw [ha, hb, hz]
  exact ser_size hzb
theorem sinF1_size {f : Nat} (h : rung .f64 f ≤ rung .f64 cOne) : ∃ a, sinF1 (some f) = some a ∧ rung .f64 a ≤ rung .f64 (p2 1) := by
  unfold sinF1
  split
  · exact addC h (Nat.le_refl (rung .f64 cOne)) (by decide : rung .f64 cOne < _) (by decide : rung .f64 cOne < _) (by decide) (by decide) (by decide +kernel)
  · exact ⟨f, rfl, Nat.le_trans h (by decide)⟩
theorem sinR_size {f : Nat} (h : rung .f64 f ≤ rung .f64 cOne) : ∃ r, sinR (some f) = some r ∧ rung .f64 r ≤ rung .f64 w100 := by
  obtain ⟨a, ha, hab⟩ := sinF1_size h
  obtain ⟨r, hr, hrb⟩ := sinS_size hab
  unfold sinR
  rw [ha, hr]
  split
  · refine ⟨_, rfl, ?_⟩
    unfold rung at *
    rw [neg_mod]; exact hrb
  · exact ⟨r, rfl, hrb⟩
theorem fits_sin {f r : Nat} (h : rung .f64 f ≤ rung .f64 cOne) (hr : Fv .f64 r (sinR (some f))) : Fits .f64 .f32 r := by
  obtain ⟨q, e, hql⟩ := sinR_size h
  have h3 := hr.2
  rw [e] at h3
  obtain rfl := ab_some h3
  exact fits_size hql
end Go.Proofs.Ytmdnalkfndoicaa

/- Voices: envelopes and notes by value: valid ones, and their ends. -/
set_option linter.unusedVariables false
set_option linter.unusedSimpArgs false
namespace Go.Proofs.Ytmdnalkfndoicaa
open Fl Go.RowKit
/-- words of an envelope, of a note, of an oscillator -/
structure EnvN where
  a : Int
  d : Int
  s : Nat
  r : Int
structure NotN where
  st : Int
  h : Int
  p : Int
  g : Nat
structure OscN where
  k : Int
  st : Nat
  ph : Nat
def EnvN.val (e : EnvN) : Value := .agg #[.int .i64 e.a, .int .i64 e.d, .float .f32 e.s, .int .i64 e.r]
def NotN.val (e : NotN) : Value := .agg #[.int .i64 e.st, .int .i64 e.h, .int .i64 e.p, .float .f32 e.g]
def OscN.val (e : OscN) : Value := .agg #[.int .i64 e.k, .float .f32 e.st, .float .f32 e.ph]
def okEnv (a d r : Int) : Bool := inB a 0 1000 && inB d 0 1000 && inB r 0 1000
def okNote (s h p : Int) : Bool := inB s 0 1000 && inB h 0 1000 && inB p 0 127
theorem allowX_any (a b x : Int) (w : World) :
    Calls Try.prog 78 #[.agg #[.int .i64 a, .int .i64 b], .int .i64 x] w fun e w' => e = .returned (.bool (inB x a b)) ∧ w.alloc (.cells #[.int .i64 a, .int .i64 b] 97) = w' := by
  by_cases h : a ≤ x
  all_goals
    go_enter Try.func78, Try.ntmps78
    go_wp2
    go_ret
    exact ⟨ret_bool (by simp [inB]; omega), rfl⟩
def lim (a b : Int) : Obj := .cells #[.int .i64 a, .int .i64 b] 97
theorem isCount_b (x : Int) (b : Bool) (w : World) (h : inB x 0 256 = b) : Calls Try.prog 101 #[.int .i64 x] w fun e w' => e = .returned (.bool b) ∧ w.alloc (lim 0 256) = w' := by
  subst h
  unfold lim
  go_enter Try.func101, Try.ntmps101
  go_wp2_with (go_at_call 78; refine (allowX_any _ _ _ _).mono ?_; rintro e w1 ⟨rfl, rfl⟩)
  go_ret
  exact ⟨rfl, rfl⟩
/-- an envelope, a note, an oscillator in a box -/
structure EnvAt (w : World) (g : Nat) (e : EnvN) : Prop where
  lt : g < w.heap.size
  a : w.cell? ⟨g, 0, none⟩ = some (.int .i64 e.a)
  d : w.cell? ⟨g, 1, none⟩ = some (.int .i64 e.d)
  s : w.cell? ⟨g, 2, none⟩ = some (.float .f32 e.s)
  r : w.cell? ⟨g, 3, none⟩ = some (.int .i64 e.r)
structure NotAt (w : World) (g : Nat) (e : NotN) : Prop where
  lt : g < w.heap.size
  st : w.cell? ⟨g, 0, none⟩ = some (.int .i64 e.st)
  h : w.cell? ⟨g, 1, none⟩ = some (.int .i64 e.h)
  p : w.cell? ⟨g, 2, none⟩ = some (.int .i64 e.p)
  g : w.cell? ⟨g, 3, none⟩ = some (.float .f32 e.g)
theorem EnvAt.since {w w' : World} {g B : Nat} {e : EnvN} (h : EnvAt w g e) (s : w.Since B w') (hg : g < B) : EnvAt w' g e :=
  ⟨Nat.lt_of_lt_of_le h.lt s.size, (s.cell (a := ⟨g, 0, none⟩) hg).trans h.a, (s.cell (a := ⟨g, 1, none⟩) hg).trans h.d, (s.cell (a := ⟨g, 2, none⟩) hg).trans h.s, (s.cell (a := ⟨g, 3, none⟩) hg).trans h.r⟩
theorem NotAt.since {w w' : World} {g B : Nat} {e : NotN} (h : NotAt w g e) (s : w.Since B w') (hg : g < B) : NotAt w' g e :=
  ⟨Nat.lt_of_lt_of_le h.lt s.size, (s.cell (a := ⟨g, 0, none⟩) hg).trans h.st, (s.cell (a := ⟨g, 1, none⟩) hg).trans h.h, (s.cell (a := ⟨g, 2, none⟩) hg).trans h.p, (s.cell (a := ⟨g, 3, none⟩) hg).trans h.g⟩
def endR (e : EnvN) (n : NotN) (b : Bool) : Int := if b then n.st + n.h + e.r else 0
end Go.Proofs.Ytmdnalkfndoicaa

/- Voices: levels of envelopes. -/
set_option linter.unusedVariables false
set_option linter.unusedSimpArgs false
namespace Go.Proofs.Ytmdnalkfndoicaa
open Fl Go.RowKit
abbrev o1 : O := some 1065353216
def heldO (a d : Int) (S : O) (n : Int) : O := if n < a then qu (some (fI n)) (some (fI a)) else if n - a < d then su o1 (mu (qu (some (fI (n - a))) (some (fI d))) (su o1 S)) else S
def lvlO (a d : Int) (S : O) (r held n : Int) : O := if n < held then heldO a d S n else if n - held < r then mu (heldO a d S held) (su o1 (qu (some (fI (n - held))) (some (fI r)))) else some 0
def inR (x lo hi : Int) : Prop := lo ≤ x ∧ x ≤ hi
theorem qu_ex (p q : Int) : ∃ r, Fv .f32 r (qu (some (fI p)) (some (fI q))) := Lo.fv_ex (op := .quo) rfl .f32 _ _ _ _ (fI_fv p).out (fI_fv q).out
theorem share_any (p q : Int) (w : World) : Calls Try.prog 111 #[.int .i64 p, .int .i64 q] w fun e w' => ∃ r m, e = .returned (.float .f32 r) ∧ Hid (Fv .f32 r (qu (some (fI p)) (some (fI q)))) ∧ w.drewN m = w' := by
  have q1 := fI_fv p
  have q2 := fI_fv q
  go_enter Try.func111, Try.ntmps111
  go_wp2_with (with_reducible_and_instances refine Lo.wpList_fo _ rfl _ _ _ _ _ rfl _ _ _ _ _ rfl rfl rfl (by assumption) (by assumption) ?_; intro rr nn hrr)
  go_ret
  exact ⟨_, _, rfl, hrr, rfl⟩
theorem share_hc (p q : Int) (w : World) (m : Nat) : Calls Try.prog 111 #[.int .i64 p, .int .i64 q] (w.drewN m) fun e w' => ∃ r n, e = .returned (.float .f32 r) ∧ Fv .f32 r (qu (some (fI p)) (some (fI q))) ∧ w' = w.drewN n :=
  (share_any p q _).mono fun e w' ⟨r, n, h1, h2, h3⟩ => ⟨r, m + n, h1, h2.out, h3.symm.trans (by simp [World.drewN, Nat.add_assoc])⟩
theorem EnvAt.drewN {w : World} {g : Nat} {e : EnvN} (h : EnvAt w g e) (m : Nat) : EnvAt (w.drewN m) g e := ⟨h.lt, h.a, h.d, h.s, h.r⟩
theorem heldO_ex {s : Nat} {S : O} (a d n : Int) (hS : Hid (Fv .f32 s S)) : ∃ r, Fv .f32 r (heldO a d S n) := by
  unfold heldO
  split
  · exact qu_ex _ _
  · split
    · obtain ⟨q1, h1⟩ := qu_ex (n - a) d
      obtain ⟨q2, h2⟩ := Lo.fv_ex (op := .sub) rfl .f32 _ _ _ _ fv1.out hS.out
      obtain ⟨q3, h3⟩ := Lo.fv_ex (op := .mul) rfl .f32 _ _ _ _ h1 h2
      exact Lo.fv_ex (op := .sub) rfl .f32 _ _ _ _ fv1.out h3
    · exact ⟨s, hS.out⟩
theorem EnvAt.range {w : World} {g : Nat} {e : EnvN} (h : EnvAt w g e) : w.rangeAt g 0 [.int .i64 e.a, .int .i64 e.d, .float .f32 e.s, .int .i64 e.r] := fun j v hj => by
  rw [Nat.zero_add]
  match j, hj with
  | 0, hj => cases hj; exact h.a
  | 1, hj => cases hj; exact h.d
  | 2, hj => cases hj; exact h.s
  | 3, hj => cases hj; exact h.r
theorem EnvAt.load3 {w : World} {g : Nat} {e : EnvN} (h : EnvAt w g e) : (loadVar 2 ⟨g, 3, none⟩).run Try.prog w = .ok (.int .i64 e.r) w := by
  have h3 := h.r
  simp [loadVar, go_sem, h3]
theorem shareG_hc (W : World) (p q : Int) (us : List Value) (hu : Lo.VRs [.int .i64 p, .int .i64 q] us) (v : World) (hv : ∃ hs d, v = Lo.mkW W hs d) :
    Calls Try.prog 111 us.toArray v fun e' v2 => ∃ r, e' = .returned (.float .f32 r) ∧ Fv .f32 r (qu (some (fI p)) (some (fI q))) ∧ ∃ hs d, v2 = Lo.mkW W hs d := by
  obtain ⟨u0, _, rfl, e0, u1, _, rfl, e1, rfl⟩ := hu
  rw [Lo.VR_int e0, Lo.VR_int e1]
  exact (share_any p q v).mono fun e' w' ⟨r, m, h1, h2, h3⟩ => ⟨r, h1, h2.out, by subst h3; exact Lo.drewG m hv⟩
def PVB (F : O) (b : Bool) (w : World) (e : Ending) (w' : World) : Prop := ∃ r, e = .returned (.tuple #[.float .f32 r, .bool b]) ∧ Hid (Fv .f32 r F) ∧ w.Since w.heap.size w'
def okLvl (e : EnvN) (held n : Int) : Bool := okEnv e.a e.d e.r && inB held 0 4000 && inB n 0 4000
def lvlR (e : EnvN) (held n : Int) (b : Bool) : O := if b then lvlO e.a e.d (ab .f32 e.s) e.r held n else some 0
theorem inR_of {x lo hi : Int} (h : inB x lo hi = true) : inR x lo hi := by simpa [inB, inR] using h
theorem env_in {e : EnvN} (h : okEnv e.a e.d e.r = true) : inR e.a 0 1000 ∧ inR e.d 0 1000 ∧ inR e.r 0 1000 := by
  simp only [okEnv, Bool.and_eq_true] at h
  exact ⟨inR_of h.1.1, inR_of h.1.2, inR_of h.2⟩
theorem allowB (a b x : Int) (bb : Bool) (w : World) (h : inB x a b = bb) :
    Calls Try.prog 78 #[.agg #[.int .i64 a, .int .i64 b], .int .i64 x] w fun e w' => e = .returned (.bool bb) ∧ w.alloc (.cells #[.int .i64 a, .int .i64 b] 97) = w' := by subst h; exact allowX_any a b x w
end Go.Proofs.Ytmdnalkfndoicaa

/- Voices: kinds of waves, oscillators that are valid. -/
set_option linter.unusedVariables false
set_option linter.unusedSimpArgs false
namespace Go.Proofs.Ytmdnalkfndoicaa
open Fl Go.RowKit
def turnB (x : O) : Bool := geO x (some 0) && ltO x (some 1065353216)
theorem turnB_of {X : O} {b1 b2 b3 : Bool} (h1 : gtO X (some 0) = b1) (h2 : eqO X (some 0) = b2) (h3 : ltO X (some 1065353216) = b3) : turnB X = ((b1 || b2) && b3) := by unfold turnB geO; rw [h1, h2, h3]
structure OscAt (w : World) (g : Nat) (e : OscN) : Prop where
  lt : g < w.heap.size
  k : w.cell? ⟨g, 0, none⟩ = some (.int .i64 e.k)
  st : w.cell? ⟨g, 1, none⟩ = some (.float .f32 e.st)
  ph : w.cell? ⟨g, 2, none⟩ = some (.float .f32 e.ph)
theorem OscAt.since {w w' : World} {g B : Nat} {e : OscN} (h : OscAt w g e) (s : w.Since B w') (hg : g < B) : OscAt w' g e :=
  ⟨Nat.lt_of_lt_of_le h.lt s.size, (s.cell (a := ⟨g, 0, none⟩) hg).trans h.k, (s.cell (a := ⟨g, 1, none⟩) hg).trans h.st, (s.cell (a := ⟨g, 2, none⟩) hg).trans h.ph⟩
def okOsc (k : Int) (s p : O) : Bool := inB k 0 3 && turnB s && turnB p
end Go.Proofs.Ytmdnalkfndoicaa

/- Sines of phases: the walks. -/
set_option linter.unusedVariables false
set_option linter.unusedSimpArgs false
namespace Go.Proofs.Ytmdnalkfndoicaa
open Fl Go.RowKit Ieee
theorem lt64_fv {p q : Nat} {P Q : O} (hp : Hid (Fv .f64 p P)) (hq : Hid (Fv .f64 q Q)) : (FloatKind.f64.format.order p q == some .lt) = lt64 P Q := by rw [ord_fv hp hq]; rfl
theorem gt64_fv {p q : Nat} {P Q : O} (hp : Hid (Fv .f64 p P)) (hq : Hid (Fv .f64 q Q)) : (FloatKind.f64.format.order p q == some .gt) = gt64 P Q := by rw [ord_fv hp hq]; rfl
theorem eq64_fv {p q : Nat} {P Q : O} (hp : Hid (Fv .f64 p P)) (hq : Hid (Fv .f64 q Q)) : (FloatKind.f64.format.order p q == some .eq) = eq64 P Q := by rw [ord_fv hp hq]; rfl
theorem fv64c {b : Nat} (h : b < 18446744073709551616) (h2 : ab .f64 b = some b) : Hid (Fv .f64 b (some b)) := Lib.hid ⟨h, h2⟩
theorem fq1 : Hid (Fv .f64 4607182418800017408 (some cOne)) := fv64c (by decide) (by rw [ab64]; rfl)
theorem fqh : Hid (Fv .f64 4602678819172646912 (some cHalf)) := fv64c (by decide) (by rw [ab64]; rfl)
theorem fqq : Hid (Fv .f64 4598175219545276416 (some cQuar)) := fv64c (by decide) (by rw [ab64]; rfl)
theorem fqp : Hid (Fv .f64 4618760256179416344 (some c2pi)) := fv64c (by decide) (by rw [ab64]; rfl)
theorem fqz : Hid (Fv .f64 0 (some 0)) := fv64c (by decide) (by rw [ab64]; rfl)
theorem fqi (n : Int) : Hid (Fv .f64 (floatOfInt .f64 n) (some (floatOfInt .f64 n))) := Lib.hid (fv_write .f64 (d := .number (decide (n < 0)) n.natAbs 0) rfl)
theorem sinK_of {k : Nat} (h : k ≤ 8) : sinK (8 - k) = ((2 * k * (2 * k + 1) : Nat) : Int) := by unfold sinK; rw [show 8 - (8 - k) = k by omega]
set_option maxHeartbeats 4000000 in
set_option maxRecDepth 100000 in
theorem implSeries_any (z : Nat) (Z : O) (w : World) (hz : Hid (Fv .f64 z Z)) :
    Calls Try.prog 119 #[.float .f64 z] w (RetF .f64 (ser Z) w) := by
  have k1 := fq1
  go_enter Try.func119, Try.ntmps119
  go_wp2_with (with_reducible_and_instances refine Lo.wpList_fo _ rfl _ _ _ _ _ rfl _ _ _ _ _ rfl rfl rfl (by assumption) (by assumption) ?_; intro rr nn hrr)
  have hu := hrr
  go_loopw [4, 5] (fun p kk wr => ∃ (k m r : Nat), k ≤ 8 ∧ kk = .int .i64 k ∧ p = .float .f64 r ∧ Hid (Fv .f64 r (sinP (opO .mul .f64 Z Z) (8 - k))) ∧ wr = w.drewN m) (fun _ kk _ => (intOf kk).toNat)
  case atStart => exact ⟨8, _, _, Nat.le_refl _, rfl, rfl, fq1, rfl⟩
  case round =>
    obtain ⟨k, m, r, hk, rfl, rfl, hr, rfl⟩ := hrel
    by_cases hlt : 1 ≤ k
    · obtain ⟨M, hM⟩ : ∃ M, 2 * k * (2 * k + 1) = M := ⟨_, rfl⟩
      have hM2 : 2 * (k : Int) * (2 * (k : Int) + 1) = (M : Int) := by rw [← hM]; push_cast; rfl
      have hMb : M ≤ 272 := by rw [← hM]; exact Nat.mul_le_mul (show 2 * k ≤ 16 by omega) (show 2 * k + 1 ≤ 17 by omega)
      have hi := fqi (M : Int)
      have eK : Hid (sinP (opO .mul .f64 Z Z) (8 - (k - 1)) = opO .sub .f64 (some cOne) (opO .quo .f64 (opO .mul .f64 (opO .mul .f64 Z Z) (sinP (opO .mul .f64 Z Z) (8 - k))) (some (floatOfInt .f64 (M : Int))))) := Lib.hid (by
        rw [show 8 - (k - 1) = (8 - k) + 1 by omega, ← hM, ← sinK_of (by omega)]; rfl)
      clear hM
      go_wp2_with (with_reducible_and_instances refine Lo.wpList_fo _ rfl _ _ _ _ _ rfl _ _ _ _ _ rfl rfl rfl (by assumption) (by assumption) ?_; intro rr nn hrr)
      rw [← eK.out] at hrr
      go_roundw
      case rel => exact ⟨k - 1, _, _, by omega, by go_num, rfl, hrr, rfl⟩
      case measure => simp [intOf]; omega
    · obtain rfl : k = 0 := by omega
      rw [show ((0 : Nat) : Int) = 0 from rfl]
      go_wp2_with (with_reducible_and_instances refine Lo.wpList_fo _ rfl _ _ _ _ _ rfl _ _ _ _ _ rfl rfl rfl (by assumption) (by assumption) ?_; intro rr nn hrr)
      go_ret
      exact ⟨_, _, rfl, hrr.out, rfl⟩
end Go.Proofs.Ytmdnalkfndoicaa

/- A float made whole, to the nearest even: it keeps to whole bounds. -/
set_option linter.unusedVariables false
set_option linter.unusedSimpArgs false
namespace Go.Proofs.Ytmdnalkfndoicaa
namespace Fl
open Ieee
/-- a 64-bit word rounded to a whole number -/
def rneW (x : Nat) : Nat := match FloatKind.f64.decode x with
  | .nan _ _ => x
  | d => FloatKind.f64.encode (d.integral .even)
def fd (c : Int) : Nat := floatOfInt .f64 c
theorem cutze (s : Bool) (n d : Nat) : Toward.zero.cut s n d ≤ n / 2 ^ d := by
  unfold Toward.cut
  dsimp only
  rw [Nat.shiftLeft_eq, Nat.one_mul]
  show n / 2 ^ min d (n.log2 + 2) + 0 ≤ _
  rcases Nat.le_total d (n.log2 + 2) with h1 | h1
  · rw [Nat.min_eq_left h1]; exact Nat.le_refl _
  · rw [Nat.min_eq_right h1, Nat.div_eq_of_lt (Nat.lt_trans Nat.lt_log2_self (Nat.pow_lt_pow_right (by decide) (by omega)))]
    exact Nat.zero_le _
/-- what lies within 2^20 goes into an integer -/
theorem toInt_some {y : Nat} (h : rung .f64 y ≤ 1043 * 4503599627370496) : ∃ v, floatToIntVal .f64 y .i64 = some v := by
  have hf : rung .f64 y < FloatKind.f64.format.infRung := Nat.lt_of_le_of_lt h (by decide)
  obtain ⟨m, e, hr, hz⟩ := read_fin .f64 hf
  obtain ⟨D, hD⟩ : ∃ D : Nat, D = 1074 := ⟨_, rfl⟩
  have h1 : zv .f64 (1043 * 4503599627370496) = 2 ^ 20 * 2 ^ D := by rw [hD]; decide +kernel
  have h2 : FloatKind.f64.format.leastPlace = -(D : Int) := by rw [hD]; decide
  have h3 : m * 2 ^ e ≤ 2 ^ 20 * 2 ^ D := by rw [← hz, ← h1]; exact (zv_le .f64).2 h
  clear hD h1
  have hd : FloatKind.f64.decode y = .number (sgn .f64 y) m (-(D : Int) + e) := by rw [← h2]; exact hr
  have hc : Toward.zero.cut (sgn .f64 y) (m <<< (-(D : Int) + e).toNat) (-(-(D : Int) + e)).toNat ≤ 1048576 := by
    refine Nat.le_trans (cutze _ _ _) ?_
    rw [Nat.shiftLeft_eq, Nat.div_le_iff_le_mul_add_pred (Nat.two_pow_pos _)]
    rcases Nat.le_total e D with h4 | h4
    · rw [show (-(D : Int) + e).toNat = 0 by omega, show (-(-(D : Int) + e)).toNat = D - e by omega, Nat.pow_zero, Nat.mul_one]
      have h5 : 2 ^ D = 2 ^ (D - e) * 2 ^ e := by rw [← Nat.pow_add]; congr 1; omega
      rw [h5, ← Nat.mul_assoc] at h3
      have := Nat.le_of_mul_le_mul_right h3 (Nat.two_pow_pos e)
      rw [Nat.mul_comm] at this
      exact Nat.le_trans this (Nat.le_add_right _ _)
    · rw [show (-(D : Int) + e).toNat = e - D by omega, show (-(-(D : Int) + e)).toNat = 0 by omega]
      have h5 : 2 ^ e = 2 ^ (e - D) * 2 ^ D := by rw [← Nat.pow_add]; congr 1; omega
      rw [h5, ← Nat.mul_assoc] at h3
      have := Nat.le_of_mul_le_mul_right h3 (Nat.two_pow_pos D)
      simp only [Nat.pow_zero, Nat.one_mul]
      omega
  have hi : ∃ v : Int, (Datum.number (sgn .f64 y) m (-(D : Int) + e)).toInt .zero = some v ∧ -1048576 ≤ v ∧ v ≤ 1048576 := by
    unfold Datum.toInt Datum.integral
    dsimp only
    generalize Toward.zero.cut (sgn .f64 y) (m <<< (-(D : Int) + e).toNat) (-(-(D : Int) + e)).toNat = c at *
    refine ⟨_, rfl, ?_, ?_⟩ <;> (unfold signed; rw [Nat.shiftLeft_zero]; split <;> omega)
  obtain ⟨v, hv, v1, v2⟩ := hi
  refine ⟨v, ?_⟩
  unfold floatToIntVal
  rw [hd, hv]
  dsimp only
  have r1 : IntKind.i64.min ≤ v := by show (-9223372036854775808 : Int) ≤ v; omega
  have r2 : v ≤ IntKind.i64.max := by show v ≤ (9223372036854775807 : Int); omega
  rw [if_pos ⟨r1, r2⟩]
theorem sgn_word0 (k : FloatKind) {r : Nat} (h : r ≤ k.format.infRung) : sgn k (k.format.word false r) = false := by
  have h1 := k.format.infRung_lt
  have e : k.format.word false r = r := by unfold Format.word; simp
  rw [e]
  unfold sgn
  rw [Nat.div_eq_of_lt (by omega)]
  rfl

theorem sgn_wordR (k : FloatKind) (s : Bool) {r : Nat} (h : r ≤ k.format.infRung) : sgn k (k.format.word s r) = s := by
  have h1 := k.format.infRung_lt
  have h0 := sw_pos k
  cases s
  · exact sgn_word0 k h
  · have e : k.format.word true r = k.format.signWeight + r := by unfold Format.word; simp
    rw [e]
    unfold sgn
    rw [Nat.add_div_left _ h0, Nat.div_eq_of_lt (by omega)]
    rfl
theorem sgn_nearR (k : FloatKind) (s : Bool) (mag : Nat) (place : Int) : sgn k (k.format.nearest s mag place) = s := by
  unfold Format.nearest
  dsimp only
  split
  · exact sgn_wordR k s (Nat.zero_le _)
  · exact sgn_wordR k s (Nat.min_le_right ..)
theorem rne_fin {x : Nat} (h : rung .f64 x < FloatKind.f64.format.infRung) (D : Nat) (hD : FloatKind.f64.format.leastPlace = -(D : Int)) : ∃ m e : Nat, zv .f64 (rung .f64 x) = m * 2 ^ e ∧
    rneW x = FloatKind.f64.format.nearest (sgn .f64 x) (Toward.even.cut (sgn .f64 x) (m * 2 ^ (e - D)) (D - e)) 0 := by
  obtain ⟨m, e, hr, hz⟩ := read_fin .f64 h
  refine ⟨m, e, hz, ?_⟩
  have hd : FloatKind.f64.decode x = .number (sgn .f64 x) m (-(D : Int) + e) := by rw [← hD]; exact hr
  unfold rneW
  rw [hd]
  dsimp only
  show FloatKind.f64.format.nearest _ _ _ = _
  rw [Nat.shiftLeft_eq, show (-(D : Int) + e).toNat = e - D by omega, show (-(-(D : Int) + e)).toNat = D - e by omega]
theorem rne_inf {x : Nat} (h : rung .f64 x = FloatKind.f64.format.infRung) : rneW x = FloatKind.f64.format.word (sgn .f64 x) FloatKind.f64.format.infRung := by
  have hd : FloatKind.f64.decode x = .infinity (sgn .f64 x) := read_inf .f64 h
  unfold rneW
  rw [hd]
  rfl
/-- c stands for the whole number C -/
def Whl (c C : Nat) : Prop := rung .f64 c = rung .f64 (FloatKind.f64.format.nearest false C 0) ∧ zv .f64 (rung .f64 c) = C * 2 ^ 1074
theorem rne_ge {x c C : Nat} (hx : rung .f64 x ≤ FloatKind.f64.format.infRung) (hc : Whl c C) (h : rung .f64 c ≤ rung .f64 x) : rung .f64 c ≤ rung .f64 (rneW x) := by
  obtain ⟨D, hD⟩ : ∃ D : Nat, D = 1074 := ⟨_, rfl⟩
  obtain ⟨hc1, hc2⟩ := hc
  rw [← hD] at hc2
  have h2 : FloatKind.f64.format.leastPlace = -(D : Int) := by rw [hD]; decide
  clear hD
  rcases Nat.lt_or_eq_of_le hx with h1 | h1
  · obtain ⟨m, e, hz, hr⟩ := rne_fin h1 D h2
    have h3 : C * 2 ^ D ≤ m * 2 ^ e := by rw [← hz, ← hc2]; exact (zv_le .f64).2 h
    rw [hr, hc1]
    refine nearest_mono .f64 _ _ (b := FloatKind.f64.format.leastPlace) (by have := lp_neg .f64; omega) (by have := lp_neg .f64; omega) (Int.le_refl _) (Nat.mul_le_mul_right _ ?_)
    have h4 := cut_mono false (sgn .f64 x) (n := C) (d := 0) (n' := m * 2 ^ (e - D)) (d' := D - e) (by
      rw [Nat.pow_zero, Nat.mul_one]
      rcases Nat.le_total e D with h4 | h4
      · rw [show e - D = 0 by omega, Nat.pow_zero, Nat.mul_one]
        have h5 : 2 ^ D = 2 ^ (D - e) * 2 ^ e := by rw [← Nat.pow_add]; congr 1; omega
        rw [h5, ← Nat.mul_assoc] at h3
        exact Nat.le_of_mul_le_mul_right h3 (Nat.two_pow_pos e)
      · rw [show D - e = 0 by omega, Nat.pow_zero, Nat.mul_one]
        have h5 : 2 ^ e = 2 ^ (e - D) * 2 ^ D := by rw [← Nat.pow_add]; congr 1; omega
        rw [h5, ← Nat.mul_assoc] at h3
        exact Nat.le_of_mul_le_mul_right h3 (Nat.two_pow_pos D))
    rw [cut_zero] at h4
    exact h4
  · rw [rne_inf h1]
    have h5 : rung .f64 (FloatKind.f64.format.word (sgn .f64 x) FloatKind.f64.format.infRung) = FloatKind.f64.format.infRung := by unfold rung; rw [word_rung_mod _ _ (Nat.le_refl _)]
    omega
theorem rne_le {x c C : Nat} (hx : rung .f64 x ≤ FloatKind.f64.format.infRung) (hc : Whl c C) (hcf : rung .f64 c < FloatKind.f64.format.infRung) (h : rung .f64 x ≤ rung .f64 c) : rung .f64 (rneW x) ≤ rung .f64 c := by
  obtain ⟨D, hD⟩ : ∃ D : Nat, D = 1074 := ⟨_, rfl⟩
  obtain ⟨hc1, hc2⟩ := hc
  rw [← hD] at hc2
  have h2 : FloatKind.f64.format.leastPlace = -(D : Int) := by rw [hD]; decide
  clear hD
  have h1 : rung .f64 x < FloatKind.f64.format.infRung := by omega
  obtain ⟨m, e, hz, hr⟩ := rne_fin h1 D h2
  have h3 : m * 2 ^ e ≤ C * 2 ^ D := by rw [← hz, ← hc2]; exact (zv_le .f64).2 h
  rw [hr, hc1]
  refine nearest_mono .f64 _ _ (b := FloatKind.f64.format.leastPlace) (by have := lp_neg .f64; omega) (by have := lp_neg .f64; omega) (Int.le_refl _) (Nat.mul_le_mul_right _ ?_)
  have h4 := cut_mono (sgn .f64 x) false (n := m * 2 ^ (e - D)) (d := D - e) (n' := C) (d' := 0) (by
    rw [Nat.pow_zero, Nat.mul_one]
    rcases Nat.le_total e D with h4 | h4
    · rw [show e - D = 0 by omega, Nat.pow_zero, Nat.mul_one]
      have h5 : 2 ^ D = 2 ^ (D - e) * 2 ^ e := by rw [← Nat.pow_add]; congr 1; omega
      rw [h5, ← Nat.mul_assoc] at h3
      exact Nat.le_of_mul_le_mul_right h3 (Nat.two_pow_pos e)
    · rw [show D - e = 0 by omega, Nat.pow_zero, Nat.mul_one]
      have h5 : 2 ^ e = 2 ^ (e - D) * 2 ^ D := by rw [← Nat.pow_add]; congr 1; omega
      rw [h5, ← Nat.mul_assoc] at h3
      exact Nat.le_of_mul_le_mul_right h3 (Nat.two_pow_pos D))
  rw [cut_zero] at h4
  exact h4
theorem rne_sgn {x : Nat} (hx : rung .f64 x ≤ FloatKind.f64.format.infRung) : sgn .f64 (rneW x) = sgn .f64 x := by
  rcases Nat.lt_or_eq_of_le hx with h1 | h1
  · obtain ⟨m, e, hz, hr⟩ := rne_fin h1 1074 (by decide)
    rw [hr]; exact sgn_nearR _ _ _ _
  · rw [rne_inf h1]; exact sgn_wordR _ _ (Nat.le_refl _)
theorem rne_fits {x : Nat} (hx : rung .f64 x ≤ FloatKind.f64.format.infRung) : rung .f64 (rneW x) ≤ FloatKind.f64.format.infRung ∧ rneW x < 2 ^ 64 := by
  rcases Nat.lt_or_eq_of_le hx with h1 | h1
  · obtain ⟨m, e, hz, hr⟩ := rne_fin h1 1074 (by decide)
    rw [hr]
    exact ⟨nearest_fin _ _ _ _, (fv_write .f64 (d := .number (sgn .f64 x) _ 0) rfl).1⟩
  · rw [rne_inf h1]
    refine ⟨?_, (fv_write .f64 (d := .infinity (sgn .f64 x)) rfl).1⟩
    unfold rung; rw [word_rung_mod _ _ (Nat.le_refl _)]; exact Nat.le_refl _
theorem ab_of_rung {x : Nat} (h : rung .f64 x ≤ FloatKind.f64.format.infRung) : ab .f64 x = some x := by
  unfold ab rung at *
  rw [if_neg (by omega)]
end Fl
end Go.Proofs.Ytmdnalkfndoicaa

/- Rates: factors; samples picked, both. -/
set_option linter.unusedVariables false
set_option linter.unusedSimpArgs false
namespace Go.Proofs.Ytmdnalkfndoicaa
open Fl Go.RowKit
theorem specIn_b (l a b : Int) (bb : Bool) (w : World) (h : inB l a b = bb) : Calls Try.prog 59 #[.int .i64 l, .int .i64 a, .int .i64 b] w fun e w' => e = .returned (.bool bb) ∧ w = w' := by
  subst h
  exact specIn_any l a b w
theorem allowR_any (a b x : Int) (w : World) :
    Calls Try.prog 78 #[.agg #[.int .i64 a, .int .i64 b], .int .i64 x] w fun e w' => e = .returned (.bool (inB x a b)) ∧ w.alloc (.cells #[.int .i64 a, .int .i64 b] 97) = w' := by
  by_cases h : a ≤ x
  all_goals
    go_enter Try.func78, Try.ntmps78
    go_wp2
    go_ret
    exact ⟨ret_bool (by simp [inB]; omega), rfl⟩
theorem allowR (a b x : Int) (bb : Bool) (w : World) (h : inB x a b = bb) :
    Calls Try.prog 78 #[.agg #[.int .i64 a, .int .i64 b], .int .i64 x] w fun e w' => e = .returned (.bool bb) ∧ w.alloc (.cells #[.int .i64 a, .int .i64 b] 97) = w' := by subst h; exact allowR_any a b x w
/-- how many samples are picked, from t on, each f-th -/
def cntP (n f t : Nat) : Nat := (n + f - 1 - t) / f
theorem cntP_lt {n f t k : Nat} (hf : 1 ≤ f) (ht : t < f) : k < cntP n f t ↔ t + k * f < n := by
  unfold cntP
  rw [← Nat.succ_le_iff, Nat.le_div_iff_mul_le (by omega), Nat.succ_mul]
  omega
theorem cntP_le {n f t : Nat} (hf : 1 ≤ f) : cntP n f t ≤ n + f := by
  unfold cntP
  exact Nat.le_trans (Nat.div_le_self _ _) (by omega)
def pickF (xs : List Nat) (f t : Nat) (k : Nat) : O := ab .f32 (wd xs (t + k * f))
def okPick (f t : Int) (n : Nat) : Bool := inB f 1 8 && inB t 0 (f - 1) && decide (n ≤ 256)
theorem okPick_nat {f t : Int} {n : Nat} (h : okPick f t n = true) : ∃ f' t' : Nat, f = f' ∧ t = t' ∧ 1 ≤ f' ∧ f' ≤ 8 ∧ t' < f' ∧ n ≤ 256 := by
  simp only [okPick, inB, Bool.and_eq_true, decide_eq_true_eq] at h
  exact ⟨f.toNat, t.toNat, by omega, by omega, by omega, by omega, by omega, by omega⟩
theorem PL.toB {n0 : Nat} {f0 : Nat → O} {w w' : World} {e : Ending} (h : PL n0 f0 w e w') : ∃ (p : Ls) (c : Nat), e = .returned (.slice p.A p.n c) ∧ Hid (p.n = n0) ∧ Hid (Gs 29 w' w.heap.size p.A p.n p.xs) ∧ Hid (Are p f0) ∧ Hid (w.Since w.heap.size w') := by
  obtain ⟨p, c, h1, h2, h3, h4, h5⟩ := h
  exact ⟨p, c, h1, Lib.hid h2, Lib.hid h3, Lib.hid h4, Lib.hid h5⟩
end Go.Proofs.Ytmdnalkfndoicaa

/- Bits: the most of bits, a coder, codes that are codes. -/
set_option linter.unusedVariables false
set_option linter.unusedSimpArgs false
namespace Go.Proofs.Ytmdnalkfndoicaa
open Fl Go.RowKit
def mst (b : Nat) : Nat := 2 ^ (b - 1)
theorem mst_le {b : Nat} (h1 : 2 ≤ b) (h2 : b ≤ 16) : 2 ≤ mst b ∧ mst b ≤ 32768 := by
  obtain rfl | rfl | rfl | rfl | rfl | rfl | rfl | rfl | rfl | rfl | rfl | rfl | rfl | rfl | rfl : b = 2 ∨ b = 3 ∨ b = 4 ∨ b = 5 ∨ b = 6 ∨ b = 7 ∨ b = 8 ∨ b = 9 ∨ b = 10 ∨ b = 11 ∨ b = 12 ∨ b = 13 ∨ b = 14 ∨ b = 15 ∨ b = 16 := by omega
  all_goals (unfold mst; decide)
def codV (m : Nat) : Value := .agg #[.int .i64 (-(m : Int)), .int .i64 ((m : Int) - 1), .float .f32 (floatOfInt .f32 (m : Int))]
def codZ : Value := .agg #[.int .i64 0, .int .i64 0, .float .f32 0]
def PC (v : Value) (b : Bool) (w : World) (e : Ending) (w' : World) : Prop := e = .returned (.tuple #[v, .bool b]) ∧ w.Since w.heap.size w'
end Go.Proofs.Ytmdnalkfndoicaa

/- The code nearest to a number: the model's and the program's. -/
set_option linter.unusedVariables false
set_option linter.unusedSimpArgs false
namespace Go.Proofs.Ytmdnalkfndoicaa
open Fl Go.RowKit
/-- what is asked of the greatest and of the least code as 64-bit numbers -/
structure Cst (m : Nat) : Prop where
  wM : Whl (fd ((m : Int) - 1)) (m - 1)
  wL : Whl (fd (-(m : Int))) m
  sM : sgn .f64 (fd ((m : Int) - 1)) = false
  sL : sgn .f64 (fd (-(m : Int))) = true
  pM : 0 < rung .f64 (fd ((m : Int) - 1))
  pL : 0 < rung .f64 (fd (-(m : Int)))
  zM : rung .f64 (fd ((m : Int) - 1)) ≤ 1042 * 4503599627370496
  zL : rung .f64 (fd (-(m : Int))) ≤ 1042 * 4503599627370496
  iM : floatToIntVal .f64 (fd ((m : Int) - 1)) .i64 = some ((m : Int) - 1)
  iL : floatToIntVal .f64 (fd (-(m : Int))) .i64 = some (-(m : Int))
set_option maxRecDepth 10000 in
theorem cst_of {b : Nat} (h1 : 2 ≤ b) (h2 : b ≤ 16) : Cst (mst b) := by
  obtain rfl | rfl | rfl | rfl | rfl | rfl | rfl | rfl | rfl | rfl | rfl | rfl | rfl | rfl | rfl : b = 2 ∨ b = 3 ∨ b = 4 ∨ b = 5 ∨ b = 6 ∨ b = 7 ∨ b = 8 ∨ b = 9 ∨ b = 10 ∨ b = 11 ∨ b = 12 ∨ b = 13 ∨ b = 14 ∨ b = 15 ∨ b = 16 := by omega
  all_goals exact ⟨⟨by decide +kernel, by decide +kernel⟩, ⟨by decide +kernel, by decide +kernel⟩, by decide +kernel, by decide +kernel, by decide +kernel, by decide +kernel, by decide +kernel, by decide +kernel, by decide +kernel, by decide +kernel⟩
def codO (m : Nat) : O → Int
  | none => 0
  | some x => if key .f64 (fd ((m : Int) - 1)) ≤ key .f64 x then (m : Int) - 1 else if key .f64 x ≤ key .f64 (fd (-(m : Int))) then -(m : Int) else (floatToIntVal .f64 (rneW x) .i64).getD 0
theorem key_pos {x : Nat} (h : sgn .f64 x = false) : key .f64 x = (rung .f64 x : Int) := by unfold key; rw [h]; rfl
theorem key_neg {x : Nat} (h : sgn .f64 x = true) : key .f64 x = -(rung .f64 x : Int) := by unfold key; rw [h]; rfl
theorem rne_hi {m x : Nat} (C : Cst m) (hx : rung .f64 x ≤ FloatKind.f64.format.infRung) : (key .f64 (fd ((m : Int) - 1)) ≤ key .f64 x → key .f64 (fd ((m : Int) - 1)) ≤ key .f64 (rneW x)) ∧ (key .f64 x ≤ key .f64 (fd ((m : Int) - 1)) → key .f64 (rneW x) ≤ key .f64 (fd ((m : Int) - 1))) := by
  have h1 := rne_sgn hx
  have p := C.pM
  have hf : rung .f64 (fd ((m : Int) - 1)) < FloatKind.f64.format.infRung := Nat.lt_of_le_of_lt C.zM (by decide)
  have h2 := rne_ge (x := x) hx C.wM
  have h3 := rne_le (x := x) hx C.wM hf
  rw [key_pos C.sM]
  cases hs : sgn .f64 x
  · rw [hs] at h1; rw [key_pos hs, key_pos h1]
    exact ⟨fun h => by have := h2 (by omega); omega, fun h => by have := h3 (by omega); omega⟩
  · rw [hs] at h1; rw [key_neg hs, key_neg h1]
    exact ⟨fun h => by omega, fun h => by omega⟩
theorem rne_lo {m x : Nat} (C : Cst m) (hx : rung .f64 x ≤ FloatKind.f64.format.infRung) : (key .f64 (fd (-(m : Int))) ≤ key .f64 x → key .f64 (fd (-(m : Int))) ≤ key .f64 (rneW x)) ∧ (key .f64 x ≤ key .f64 (fd (-(m : Int))) → key .f64 (rneW x) ≤ key .f64 (fd (-(m : Int)))) := by
  have h1 := rne_sgn hx
  have p := C.pL
  have hf : rung .f64 (fd (-(m : Int))) < FloatKind.f64.format.infRung := Nat.lt_of_le_of_lt C.zL (by decide)
  have h2 := rne_ge (x := x) hx C.wL
  have h3 := rne_le (x := x) hx C.wL hf
  rw [key_neg C.sL]
  cases hs : sgn .f64 x
  · rw [hs] at h1; rw [key_pos hs, key_pos h1]
    exact ⟨fun h => by omega, fun h => by omega⟩
  · rw [hs] at h1; rw [key_neg hs, key_neg h1]
    exact ⟨fun h => by have := h3 (by omega); omega, fun h => by have := h2 (by omega); omega⟩
theorem key_inj {x y : Nat} (hx : x < 2 ^ 64) (hy : y < 2 ^ 64) (h : key .f64 x = key .f64 y) (h0 : rung .f64 y ≠ 0) : x = y := by
  rw [← word_of .f64 (b := x) hx, ← word_of .f64 (b := y) hy]
  cases hs : sgn .f64 x <;> cases ht : sgn .f64 y
  · rw [key_pos hs, key_pos ht] at h; rw [show rung .f64 x = rung .f64 y by omega]
  · rw [key_pos hs, key_neg ht] at h; omega
  · rw [key_neg hs, key_pos ht] at h; omega
  · rw [key_neg hs, key_neg ht] at h; rw [show rung .f64 x = rung .f64 y by omega]
theorem rne_int {m x : Nat} (C : Cst m) (hx : rung .f64 x ≤ FloatKind.f64.format.infRung) (h1 : key .f64 (fd (-(m : Int))) ≤ key .f64 x) (h2 : key .f64 x ≤ key .f64 (fd ((m : Int) - 1))) : floatToIntVal .f64 (rneW x) .i64 = some ((floatToIntVal .f64 (rneW x) .i64).getD 0) := by
  have h3 := (rne_hi C hx).2 h2
  have h4 := (rne_lo C hx).1 h1
  have zM := C.zM; have zL := C.zL
  rw [key_pos C.sM] at h3; rw [key_neg C.sL] at h4
  obtain ⟨v, hv⟩ := toInt_some (y := rneW x) (by
    cases hs : sgn .f64 (rneW x)
    · rw [key_pos hs] at h3; omega
    · rw [key_neg hs] at h4; omega)
  rw [hv]; rfl
theorem fd_fits (c : Int) : ab .f64 (fd c) = some (fd c) ∧ fd c < 2 ^ 64 := ⟨(fv_write .f64 (d := .number (decide (c < 0)) c.natAbs 0) rfl).2, (fv_write .f64 (d := .number (decide (c < 0)) c.natAbs 0) rfl).1⟩
end Go.Proofs.Ytmdnalkfndoicaa

/- The code nearest to a number: both. -/
set_option linter.unusedVariables false
set_option linter.unusedSimpArgs false
namespace Go.Proofs.Ytmdnalkfndoicaa
open Fl Go.RowKit
theorem run_rne {P : Program} (x : Nat) (hx : ab .f64 x = some x) (w : World) : (Extern.MathFloor.toIntegral "math.RoundToEven" .even #[.float .f64 x]).run P w = .ok (.float .f64 (rneW x)) w := by
  have hn : (FloatKind.f64.decode x).isNaN = false := by
    have := read_nan (k := .f64) (b := x)
    rw [hx] at this
    exact this
  unfold rneW
  change Sem.run P (match FloatKind.f64.decode x with
    | .nan s t => if FloatKind.f64.format.quiet t = t then pure (Value.float .f64 x) else do
      let kept ← choose (.extern "math.Floor,Ceil,Trunc,RoundToEven.signallingNaN kept" 2)
      pure (Value.float .f64 (if kept == 1 then x else FloatKind.f64.encode (.nan s (FloatKind.f64.format.quiet t))))
    | d => pure (Value.float .f64 (FloatKind.f64.encode (d.integral .even)))) w = _
  cases hd : FloatKind.f64.decode x with
  | nan s t => rw [hd] at hn; cases hn
  | number s m e => rfl
  | infinity s => rfl
theorem codO_some (m x : Nat) : codO m (some x) = if key .f64 (fd ((m : Int) - 1)) ≤ key .f64 x then (m : Int) - 1 else if key .f64 x ≤ key .f64 (fd (-(m : Int))) then -(m : Int) else (floatToIntVal .f64 (rneW x) .i64).getD 0 := rfl
theorem ord_of {x c : Nat} (hx : ab .f64 x = some x) (hc : ab .f64 c = some c) : (key .f64 x < key .f64 c ∧ FloatKind.f64.format.order x c = some .lt) ∨ (key .f64 x = key .f64 c ∧ FloatKind.f64.format.order x c = some .eq) ∨ (key .f64 c < key .f64 x ∧ FloatKind.f64.format.order x c = some .gt) := by
  rw [order_key .f64 hx hc, cmp_def]
  rcases Int.lt_trichotomy (key .f64 x) (key .f64 c) with h | h | h
  · exact .inl ⟨h, by rw [if_pos h]⟩
  · exact .inr (.inl ⟨h, by rw [if_neg (by omega), if_pos h]⟩)
  · exact .inr (.inr ⟨h, by rw [if_neg (by omega), if_neg (by omega)]⟩)
end Go.Proofs.Ytmdnalkfndoicaa

/- The code nearest to a number: the program's. -/
set_option linter.unusedVariables false
set_option linter.unusedSimpArgs false
namespace Go.Proofs.Ytmdnalkfndoicaa
open Fl Go.RowKit
theorem isNaN_nan (x : Nat) (h : FloatKind.f64.format.order x x = none) (w : World) : Calls Try.prog 114 #[.float .f64 x] w fun e w' => e = .returned (.bool true) ∧ w = w' := by
  go_enter Try.func114, Try.ntmps114
  go_wp2
  go_ret
  exact ⟨rfl, rfl⟩
theorem isNaN_num (x : Nat) (h : FloatKind.f64.format.order x x = some .eq) (w : World) : Calls Try.prog 114 #[.float .f64 x] w fun e w' => e = .returned (.bool false) ∧ w = w' := by
  go_enter Try.func114, Try.ntmps114
  go_wp2
  go_ret
  exact ⟨rfl, rfl⟩
theorem run_max {P : Program} (ts : Array TypeId) (t : TypeId) (x y r : Nat) (h : (FloatKind.f64.format.order x y = some .lt ∧ r = y) ∨ (FloatKind.f64.format.order x y = some .gt ∧ r = x) ∨ (FloatKind.f64.format.order x y = some .eq ∧ x = y ∧ r = x)) (W : World) :
    (Builtin.max_ ts t #[.float .f64 x, .float .f64 y]).run P W = .ok (.float .f64 r) W := by
  rcases h with ⟨h, rfl⟩ | ⟨h, rfl⟩ | ⟨h, rfl, rfl⟩
  · simp [Builtin.max_, Builtin.max2, h]
  · simp [Builtin.max_, Builtin.max2, h]
  · simp [Builtin.max_, Builtin.max2, h]
theorem run_min {P : Program} (ts : Array TypeId) (t : TypeId) (x y r : Nat) (h : (FloatKind.f64.format.order x y = some .lt ∧ r = x) ∨ (FloatKind.f64.format.order x y = some .gt ∧ r = y) ∨ (FloatKind.f64.format.order x y = some .eq ∧ x = y ∧ r = x)) (W : World) :
    (Builtin.min_ ts t #[.float .f64 x, .float .f64 y]).run P W = .ok (.float .f64 r) W := by
  rcases h with ⟨h, rfl⟩ | ⟨h, rfl⟩ | ⟨h, rfl, rfl⟩
  · simp [Builtin.min_, Builtin.min2, h]
  · simp [Builtin.min_, Builtin.min2, h]
  · simp [Builtin.min_, Builtin.min2, h]
/-- the rounded number, brought between the bounds, as an integer -/
theorem clamp_num {m x : Nat} (C : Cst m) (hab : ab .f64 x = some x) :
    ∃ r1 r2, ((FloatKind.f64.format.order (rneW x) (fd (-(m : Int))) = some .lt ∧ r1 = fd (-(m : Int))) ∨ (FloatKind.f64.format.order (rneW x) (fd (-(m : Int))) = some .gt ∧ r1 = rneW x) ∨ (FloatKind.f64.format.order (rneW x) (fd (-(m : Int))) = some .eq ∧ rneW x = fd (-(m : Int)) ∧ r1 = rneW x)) ∧
      ((FloatKind.f64.format.order r1 (fd ((m : Int) - 1)) = some .lt ∧ r2 = r1) ∨ (FloatKind.f64.format.order r1 (fd ((m : Int) - 1)) = some .gt ∧ r2 = fd ((m : Int) - 1)) ∨ (FloatKind.f64.format.order r1 (fd ((m : Int) - 1)) = some .eq ∧ r1 = fd ((m : Int) - 1) ∧ r2 = r1)) ∧
      floatToIntVal .f64 r2 .i64 = some (codO m (some x)) := by
  have hr := rung_of_ab .f64 hab
  have hR := rne_fits hr
  have hRa := ab_of_rung hR.1
  have fM := fd_fits ((m : Int) - 1)
  have fL := fd_fits (-(m : Int))
  have hi := rne_hi C hr
  have lo := rne_lo C hr
  have kM := key_pos C.sM; have pM := C.pM
  have kL := key_neg C.sL; have pL := C.pL
  have hML : FloatKind.f64.format.order (fd (-(m : Int))) (fd ((m : Int) - 1)) = some .lt := by
    rcases ord_of fL.1 fM.1 with ⟨h, h2⟩ | ⟨h, h2⟩ | ⟨h, h2⟩
    · exact h2
    · omega
    · omega
  rw [codO_some]
  rcases ord_of hRa fL.1 with ⟨h1, o1⟩ | ⟨h1, o1⟩ | ⟨h1, o1⟩
  · refine ⟨fd (-(m : Int)), fd (-(m : Int)), .inl ⟨o1, rfl⟩, .inl ⟨hML, rfl⟩, ?_⟩
    rw [C.iL, if_neg (by omega), if_pos (by omega)]
  · have e := key_inj hR.2 fL.2 h1 (by omega)
    refine ⟨rneW x, rneW x, .inr (.inr ⟨o1, e, rfl⟩), .inl ⟨by rw [e]; exact hML, rfl⟩, ?_⟩
    rw [if_neg (by omega)]
    split
    · rw [e]; exact C.iL
    · exact rne_int C hr (by omega) (by omega)
  · rcases ord_of hRa fM.1 with ⟨h2, o2⟩ | ⟨h2, o2⟩ | ⟨h2, o2⟩
    · refine ⟨rneW x, rneW x, .inr (.inl ⟨o1, rfl⟩), .inl ⟨o2, rfl⟩, ?_⟩
      rw [if_neg (by omega), if_neg (by omega)]
      exact rne_int C hr (by omega) (by omega)
    · have e := key_inj hR.2 fM.2 h2 (by omega)
      refine ⟨rneW x, rneW x, .inr (.inl ⟨o1, rfl⟩), .inr (.inr ⟨o2, e, rfl⟩), ?_⟩
      split
      · rw [e]; exact C.iM
      · rw [if_neg (by omega)]
        exact rne_int C hr (by omega) (by omega)
    · refine ⟨rneW x, fd ((m : Int) - 1), .inr (.inl ⟨o1, rfl⟩), .inr (.inl ⟨o2, rfl⟩), ?_⟩
      rw [C.iM, if_pos (by omega)]
end Go.Proofs.Ytmdnalkfndoicaa

/- Products with powers of two: the code of the product in 32 bits is that of the product in 64 bits. -/
set_option linter.unusedVariables false
set_option linter.unusedSimpArgs false
namespace Go.Proofs.Ytmdnalkfndoicaa
namespace Fl
open Ieee
theorem nearest_exact (k : FloatKind) (neg : Bool) {r mag : Nat} {place b : Int} (hr : r < k.format.infRung) (hb : b ≤ place) (hbl : b ≤ k.format.leastPlace)
    (h : zv k r * 2 ^ (k.format.leastPlace - b).toNat = mag * 2 ^ (place - b).toNat) : rung k (k.format.nearest neg mag place) = r := by
  obtain ⟨m, e, hz, hme, _⟩ := rung_form k r
  have h0 := nearest_rung k neg hr hz hme
  have h1 : m * 2 ^ (k.format.leastPlace + (e : Int) - b).toNat = mag * 2 ^ (place - b).toNat := by
    rw [← h, hz, Nat.mul_assoc, ← Nat.pow_add]
    congr 2
    omega
  have a := nearest_mono k neg neg (mag := m) (mag' := mag) (place := k.format.leastPlace + e) (place' := place) (b := b) (by omega) hb hbl (Nat.le_of_eq h1)
  have a' := nearest_mono k neg neg (mag := mag) (mag' := m) (place := place) (place' := k.format.leastPlace + e) (b := b) hb (by omega) hbl (Nat.le_of_eq h1.symm)
  omega
theorem zv_dbl1 (k : FloatKind) (r : Nat) : ∃ r', zv k r' = zv k r * 2 := by
  have hp := bin_pos k
  by_cases h : r < k.format.binade
  · refine ⟨2 * r, ?_⟩
    by_cases h2 : 2 * r < k.format.binade
    · unfold zv; rw [if_pos h2, if_pos h]; omega
    · have e1 : 2 * r / k.format.binade = 1 := by
        rw [Nat.div_eq_sub_div hp (by omega), Nat.div_eq_of_lt (by omega)]
      have e2 : 2 * r % k.format.binade = 2 * r - k.format.binade := by
        rw [Nat.mod_eq_sub_mod (by omega), Nat.mod_eq_of_lt (by omega)]
      unfold zv
      rw [if_neg h2, if_pos h, e1, e2]
      simp
      omega
  · refine ⟨r + k.format.binade, ?_⟩
    have e1 : (r + k.format.binade) / k.format.binade = r / k.format.binade + 1 := Nat.add_div_right _ hp
    have e2 : (r + k.format.binade) % k.format.binade = r % k.format.binade := Nat.add_mod_right _ _
    have hq : 1 ≤ r / k.format.binade := (Nat.one_le_div_iff hp).2 (by omega)
    unfold zv
    rw [if_neg (by omega), if_neg h, e1, e2, Nat.mul_assoc, ← Nat.pow_succ]
    congr 2
    omega
theorem zv_dbl (k : FloatKind) (r : Nat) : ∀ j, ∃ r', zv k r' = zv k r * 2 ^ j
  | 0 => ⟨r, by rw [Nat.pow_zero, Nat.mul_one]⟩
  | j + 1 => by
    obtain ⟨s, hs⟩ := zv_dbl k r j
    obtain ⟨t, ht⟩ := zv_dbl1 k s
    exact ⟨t, by rw [ht, hs, Nat.pow_succ, Nat.mul_assoc]⟩
/-- a product that is exact -/
theorem mul_exact (k : FloatKind) {x c r m : Nat} (hx : rung k x < k.format.infRung) (hc : rung k c < k.format.infRung) (sc : sgn k c = false) (P : Nat) (hP : k.format.leastPlace = -(P : Int)) (hzc : zv k (rung k c) = m * 2 ^ P) (hr : r < k.format.infRung)
    (hzr : zv k r = zv k (rung k x) * m) : ∃ q, floatBits .mul k x c = some q ∧ rung k q = r ∧ sgn k q = sgn k x := by
  obtain ⟨mx, ex, h1, h2⟩ := read_fin k hx
  obtain ⟨mc, ec, h3, h4⟩ := read_fin k hc
  simp only [floatBits, Format.mul, h1, h3, Datum.product, Option.map_some]
  refine ⟨_, rfl, ?_, ?_⟩
  · show rung k (k.format.nearest _ _ _) = r
    refine nearest_exact k _ (b := k.format.leastPlace + k.format.leastPlace) hr (by omega) (by omega) ?_
    rw [show (k.format.leastPlace - (k.format.leastPlace + k.format.leastPlace)).toNat = P by omega,
      show (k.format.leastPlace + (ex : Int) + (k.format.leastPlace + (ec : Int)) - (k.format.leastPlace + k.format.leastPlace)).toNat = ex + ec by omega, hzr, h2, Nat.pow_add]
    have e : mx * mc * (2 ^ ex * 2 ^ ec) = (mx * 2 ^ ex) * (mc * 2 ^ ec) := by rw [Nat.mul_assoc, Nat.mul_assoc, Nat.mul_left_comm mc]
    rw [e, ← h4, hzc, Nat.mul_assoc]
  · show sgn k (k.format.nearest _ _ _) = _
    rw [sgn_nearest, sc]
    cases sgn k x <;> rfl
/-- a product with a number without sign, at least 1, is not less, and has the sign -/
theorem mul_big (k : FloatKind) {x c o t : Nat} (hx : rung k x < k.format.infRung) (hc : rung k c < k.format.infRung) (sc : sgn k c = false) (ht : rung k t < k.format.infRung) (ho : rung k o < k.format.infRung) (h1 : rung k t ≤ rung k x) (h2 : rung k o ≤ rung k c)
    (h3 : (floatBits .mul k t o).map (fun r => decide (rung k t ≤ rung k r)) = some true) : ∃ q, floatBits .mul k x c = some q ∧ rung k t ≤ rung k q ∧ sgn k q = sgn k x ∧ rung k q ≤ k.format.infRung := by
  obtain ⟨r, q, e1, e2, e3⟩ := mul_size k ht ho hx hc h1 h2
  rw [e1] at h3
  simp only [Option.map_some, Option.some.injEq, decide_eq_true_eq] at h3
  refine ⟨q, e2, by omega, ?_⟩
  obtain ⟨mx, ex, g1, g2⟩ := read_fin k hx
  obtain ⟨mc, ec, g3, g4⟩ := read_fin k hc
  simp only [floatBits, Format.mul, g1, g3, Datum.product, Option.map_some] at e2
  injection e2 with e2
  rw [← e2]
  refine ⟨?_, nearest_fin _ _ _ _⟩
  show sgn k (k.format.nearest _ _ _) = _
  rw [sgn_nearest, sc]
  cases sgn k x <;> rfl
end Fl
open Fl Go.RowKit Ieee
/-- what is asked of m as a number of 32 and of 64 bits -/
structure Pw (m : Nat) : Prop where
  f3 : rung .f32 (fI (m : Int)) < FloatKind.f32.format.infRung
  f6 : rung .f64 (fd (m : Int)) < FloatKind.f64.format.infRung
  s3 : sgn .f32 (fI (m : Int)) = false
  s6 : sgn .f64 (fd (m : Int)) = false
  z3 : zv .f32 (rung .f32 (fI (m : Int))) = m * 2 ^ 149
  z6 : zv .f64 (rung .f64 (fd (m : Int))) = m * 2 ^ 1074
  o3 : rung .f32 1065353216 ≤ rung .f32 (fI (m : Int))
  o6 : rung .f64 4607182418800017408 ≤ rung .f64 (fd (m : Int))
  i3 : ∀ s : Bool, (Datum.infinity s).product (FloatKind.f32.format.read (fI (m : Int))) = some (.infinity s)
  i6 : ∀ s : Bool, (Datum.infinity s).product (FloatKind.f64.format.read (fd (m : Int))) = some (.infinity s)
set_option maxRecDepth 10000 in
theorem pw_of {b : Nat} (h1 : 2 ≤ b) (h2 : b ≤ 16) : Pw (mst b) := by
  obtain rfl | rfl | rfl | rfl | rfl | rfl | rfl | rfl | rfl | rfl | rfl | rfl | rfl | rfl | rfl : b = 2 ∨ b = 3 ∨ b = 4 ∨ b = 5 ∨ b = 6 ∨ b = 7 ∨ b = 8 ∨ b = 9 ∨ b = 10 ∨ b = 11 ∨ b = 12 ∨ b = 13 ∨ b = 14 ∨ b = 15 ∨ b = 16 := by omega
  all_goals exact ⟨by decide +kernel, by decide +kernel, by decide +kernel, by decide +kernel, by decide +kernel, by decide +kernel, by decide +kernel, by decide +kernel, by decide +kernel, by decide +kernel⟩
def t32 : Nat := 147 * 8388608
def t64 : Nat := 1043 * 4503599627370496
theorem cod_sat {m y : Nat} (C : Cst m) (h : rung .f64 t64 ≤ rung .f64 y) : codO m (some y) = if sgn .f64 y then -(m : Int) else (m : Int) - 1 := by
  have kM := key_pos C.sM; have kL := key_neg C.sL
  have zM := C.zM; have zL := C.zL; have pM := C.pM
  have ht : rung .f64 t64 = 1043 * 4503599627370496 := by decide
  rw [codO_some]
  cases hs : sgn .f64 y
  · have ky := key_pos hs
    rw [if_pos (by omega)]; rfl
  · have ky := key_neg hs
    rw [if_neg (by omega), if_pos (by omega)]; rfl
theorem wide_some (x : Nat) : wide (some x) = some (FloatKind.f64.encode (FloatKind.f32.decode x)) := rfl
theorem opO_some (op : BinOp) (k : FloatKind) (x y : Nat) : opO op k (some x) (some y) = floatBits op k x y := rfl
theorem wide_big {p : Nat} (hp : rung .f32 p ≤ FloatKind.f32.format.infRung) (h : rung .f32 t32 ≤ rung .f32 p) : rung .f64 t64 ≤ rung .f64 (FloatKind.f64.encode (FloatKind.f32.decode p)) ∧ sgn .f64 (FloatKind.f64.encode (FloatKind.f32.decode p)) = sgn .f32 p := by
  obtain ⟨D, hD⟩ : ∃ D : Nat, D = 925 := ⟨_, rfl⟩
  rcases Nat.lt_or_eq_of_le hp with h1 | h1
  · obtain ⟨a, b⟩ := wide_zv h1 D hD
    refine ⟨?_, a⟩
    have h2 := wide_zv (b := t32) (by decide) D hD
    rw [show FloatKind.f64.encode (FloatKind.f32.decode t32) = t64 by decide +kernel] at h2
    refine (zv_le .f64).1 ?_
    rw [h2.2, b]
    exact Nat.mul_le_mul_right _ ((zv_le .f32).2 h)
  · have hr : FloatKind.f32.decode p = .infinity (sgn .f32 p) := read_inf .f32 h1
    rw [hr]
    cases sgn .f32 p <;> decide +kernel
theorem sg_word_inj {x y : Nat} (hx : x < 2 ^ 64) (hy : y < 2 ^ 64) (h1 : rung .f64 x = rung .f64 y) (h2 : sgn .f64 x = sgn .f64 y) : x = y := by
  rw [← word_of .f64 (b := x) hx, ← word_of .f64 (b := y) hy, h1, h2]
theorem op_lt {op : BinOp} {k : FloatKind} {x y q : Nat} (h : floatBits op k x y = some q) : q < 2 ^ k.format.width := by
  cases op <;> simp only [floatBits] at h <;> first | (cases h; done) | skip
  all_goals
    simp only [Format.add, Format.sub, Format.mul, Format.div, Option.map_eq_some_iff] at h
    obtain ⟨d, hd, rfl⟩ := h
    exact k.format.write_lt d
set_option maxHeartbeats 1000000 in
theorem cod_mul {m j : Nat} (hj : m = 2 ^ j) (hm : m ≤ 32768) (C : Cst m) (W : Pw m) (X : O) (hX : ∀ x, X = some x → rung .f32 x ≤ FloatKind.f32.format.infRung) :
    codO m (wide (opO .mul .f32 X (some (fI (m : Int))))) = codO m (opO .mul .f64 (wide X) (some (fd (m : Int)))) := by
  cases X with
  | none => rfl
  | some x =>
    have hx := hX x rfl
    rw [wide_some, opO_some, opO_some]
    have one6 : rung .f64 4607182418800017408 < FloatKind.f64.format.infRung := by decide
    have one3 : rung .f32 1065353216 < FloatKind.f32.format.infRung := by decide
    rcases Nat.lt_or_eq_of_le hx with h1 | h1
    · obtain ⟨D, hD⟩ : ∃ D : Nat, D = 925 := ⟨_, rfl⟩
      obtain ⟨sx, zx⟩ := wide_zv h1 D hD
      have hD3 : zv .f32 FloatKind.f32.format.infRung * 2 ^ D ≤ zv .f64 FloatKind.f64.format.infRung := by rw [hD]; decide +kernel
      have hwf : rung .f64 (FloatKind.f64.encode (FloatKind.f32.decode x)) < FloatKind.f64.format.infRung := by
        refine (zv_lt .f64).1 ?_
        rw [zx]
        have h2 : zv .f32 (rung .f32 x) < zv .f32 FloatKind.f32.format.infRung := (zv_lt .f32).2 h1
        exact Nat.lt_of_lt_of_le (Nat.mul_lt_mul_of_pos_right h2 (Nat.two_pow_pos _)) hD3
      rcases Nat.lt_or_ge (rung .f32 x) (rung .f32 t32) with h2 | h2
      · -- small: both products are exact
        obtain ⟨r, hr⟩ := zv_dbl .f32 (rung .f32 x) j
        rw [← hj] at hr
        have hrf : r < FloatKind.f32.format.infRung := by
          refine (zv_lt .f32).1 ?_
          rw [hr]
          have h3 : zv .f32 (rung .f32 x) < zv .f32 (rung .f32 t32) := (zv_lt .f32).2 h2
          have h4 : zv .f32 (rung .f32 t32) * 32768 ≤ zv .f32 FloatKind.f32.format.infRung := by decide +kernel
          have h5 : zv .f32 (rung .f32 x) * m ≤ zv .f32 (rung .f32 x) * 32768 := Nat.mul_le_mul_left _ hm
          omega
        obtain ⟨p, e1, e2, e3⟩ := mul_exact .f32 h1 W.f3 W.s3 149 (by decide) W.z3 hrf hr
        have hpf : rung .f32 p < FloatKind.f32.format.infRung := by rw [e2]; exact hrf
        obtain ⟨sp, zp⟩ := wide_zv hpf D hD
        have hpw : rung .f64 (FloatKind.f64.encode (FloatKind.f32.decode p)) < FloatKind.f64.format.infRung := by
          refine (zv_lt .f64).1 ?_
          rw [zp]
          have h2 : zv .f32 (rung .f32 p) < zv .f32 FloatKind.f32.format.infRung := (zv_lt .f32).2 hpf
          exact Nat.lt_of_lt_of_le (Nat.mul_lt_mul_of_pos_right h2 (Nat.two_pow_pos _)) hD3
        obtain ⟨q, g1, g2, g3⟩ := mul_exact .f64 hwf W.f6 W.s6 1074 (by decide) W.z6 hpw (by rw [zp, e2, hr, zx, Nat.mul_assoc, Nat.mul_comm m, ← Nat.mul_assoc])
        rw [e1, g1, wide_some]
        have : FloatKind.f64.encode (FloatKind.f32.decode p) = q := sg_word_inj (FloatKind.f64.format.write_lt _) (op_lt g1) g2.symm (by rw [sp, e3, g3, sx])
        rw [this]
      · obtain ⟨p, e1, e2, e3, e4⟩ := mul_big .f32 (t := t32) (o := 1065353216) h1 W.f3 W.s3 (by decide) one3 h2 W.o3 (by decide +kernel)
        obtain ⟨w1, w2⟩ := wide_big hx h2
        obtain ⟨q, g1, g2, g3, g4⟩ := mul_big .f64 (t := t64) (o := 4607182418800017408) hwf W.f6 W.s6 (by decide) one6 w1 W.o6 (by decide +kernel)
        obtain ⟨v1, v2⟩ := wide_big e4 e2
        rw [e1, g1, wide_some, cod_sat C v1, cod_sat C g2, v2, e3, g3, w2]
    · have hr : FloatKind.f32.format.read x = .infinity (sgn .f32 x) := read_inf .f32 h1
      have hd : FloatKind.f32.decode x = .infinity (sgn .f32 x) := hr
      have e1 : floatBits .mul .f32 x (fI (m : Int)) = some (FloatKind.f32.format.word (sgn .f32 x) FloatKind.f32.format.infRung) := by
        simp only [floatBits, Format.mul, hr, W.i3, Option.map_some]; rfl
      have hr6 : FloatKind.f64.format.read (FloatKind.f64.encode (FloatKind.f32.decode x)) = .infinity (sgn .f32 x) := by
        rw [hd]; cases sgn .f32 x <;> decide +kernel
      have e2 : floatBits .mul .f64 (FloatKind.f64.encode (FloatKind.f32.decode x)) (fd (m : Int)) = some (FloatKind.f64.format.word (sgn .f32 x) FloatKind.f64.format.infRung) := by
        simp only [floatBits, Format.mul, hr6, W.i6, Option.map_some]; rfl
      rw [e1, e2, wide_some]
      cases sgn .f32 x
      · rw [show FloatKind.f64.encode (FloatKind.f32.decode (FloatKind.f32.format.word false FloatKind.f32.format.infRung)) = FloatKind.f64.format.word false FloatKind.f64.format.infRung by decide +kernel]
      · rw [show FloatKind.f64.encode (FloatKind.f32.decode (FloatKind.f32.format.word true FloatKind.f32.format.infRung)) = FloatKind.f64.format.word true FloatKind.f64.format.infRung by decide +kernel]
end Go.Proofs.Ytmdnalkfndoicaa

/- Whole parts of floats: what goes into an integer, and what is left of it. -/
set_option linter.unusedVariables false
set_option linter.unusedSimpArgs false
namespace Go.Proofs.Ytmdnalkfndoicaa
namespace Fl
open Ieee
theorem cutz_eq (s : Bool) (n d : Nat) : Toward.zero.cut s n d = n / 2 ^ d := by
  unfold Toward.cut
  dsimp only
  rw [Nat.shiftLeft_eq, Nat.one_mul]
  show n / 2 ^ min d (n.log2 + 2) + 0 = _
  rcases Nat.le_total d (n.log2 + 2) with h1 | h1
  · rw [Nat.min_eq_left h1]; rfl
  · have h2 : n < 2 ^ (n.log2 + 2) := Nat.lt_trans Nat.lt_log2_self (Nat.pow_lt_pow_right (by decide) (by omega))
    rw [Nat.min_eq_right h1, Nat.div_eq_of_lt h2, Nat.div_eq_of_lt (Nat.lt_of_lt_of_le h2 (Nat.pow_le_pow_right (by decide) h1))]
/-- the whole part of a finite number's size -/
def whl (D y : Nat) : Nat := zv .f64 (rung .f64 y) / 2 ^ D
theorem toInt_whole {y D : Nat} (hD : D = 1074) (hf : rung .f64 y < FloatKind.f64.format.infRung) (hlt : whl D y < 4611686018427387904) : floatToIntVal .f64 y .i64 = some (sg (sgn .f64 y) (whl D y)) := by
  obtain ⟨m, e, hr, hz⟩ := read_fin .f64 hf
  have h2 : FloatKind.f64.format.leastPlace = -(D : Int) := by rw [hD]; decide
  clear hD
  have hd : FloatKind.f64.decode y = .number (sgn .f64 y) m (-(D : Int) + e) := by rw [← h2]; exact hr
  have hc : Toward.zero.cut (sgn .f64 y) (m <<< (-(D : Int) + e).toNat) (-(-(D : Int) + e)).toNat = whl D y := by
    rw [cutz_eq, Nat.shiftLeft_eq]
    unfold whl
    rw [hz]
    rcases Nat.le_total e D with h4 | h4
    · rw [show (-(D : Int) + e).toNat = 0 by omega, show (-(-(D : Int) + e)).toNat = D - e by omega, Nat.pow_zero, Nat.mul_one]
      have h5 : 2 ^ D = 2 ^ (D - e) * 2 ^ e := by rw [← Nat.pow_add]; congr 1; omega
      rw [h5, Nat.mul_div_mul_right _ _ (Nat.two_pow_pos e)]
    · rw [show (-(D : Int) + e).toNat = e - D by omega, show (-(-(D : Int) + e)).toNat = 0 by omega, Nat.pow_zero, Nat.div_one]
      have h5 : 2 ^ e = 2 ^ (e - D) * 2 ^ D := by rw [← Nat.pow_add]; congr 1; omega
      rw [h5, ← Nat.mul_assoc, Nat.mul_div_cancel _ (Nat.two_pow_pos D)]
  have hi : (Datum.number (sgn .f64 y) m (-(D : Int) + e)).toInt .zero = some (sg (sgn .f64 y) (whl D y)) := by
    unfold Datum.toInt Datum.integral
    dsimp only
    rw [hc]
    simp only [signed, sg, Nat.shiftLeft_zero]
  unfold floatToIntVal
  rw [hd, hi]
  dsimp only
  have r1 : IntKind.i64.min ≤ sg (sgn .f64 y) (whl D y) := by show (-9223372036854775808 : Int) ≤ _; unfold sg; split <;> omega
  have r2 : sg (sgn .f64 y) (whl D y) ≤ IntKind.i64.max := by show _ ≤ (9223372036854775807 : Int); unfold sg; split <;> omega
  rw [if_pos ⟨r1, r2⟩]
theorem zv_low {C : Nat} (h : C < 9007199254740992) : zv .f64 C = C := by
  have hb : FloatKind.f64.format.binade = 4503599627370496 := by decide
  unfold zv
  rw [hb]
  by_cases h1 : C < 4503599627370496
  · rw [if_pos h1]
  · have e1 : C / 4503599627370496 = 1 := by omega
    have e2 : C % 4503599627370496 = C - 4503599627370496 := by omega
    rw [if_neg h1, e1, e2]
    simp
    omega
theorem fd_whole {C D : Nat} {s : Bool} (hD : D = 1074) (h : C < 9007199254740992) : rung .f64 (fd (sg s C)) < FloatKind.f64.format.infRung ∧ zv .f64 (rung .f64 (fd (sg s C))) = C * 2 ^ D ∧ (C ≠ 0 → sgn .f64 (fd (sg s C)) = s) := by
  obtain ⟨r, hr⟩ := zv_dbl .f64 C D
  rw [zv_low h] at hr
  have h2 : FloatKind.f64.format.leastPlace = -(D : Int) := by rw [hD]; decide
  have hbig : zv .f64 (1076 * 4503599627370496) = 9007199254740992 * 2 ^ D := by rw [hD]; decide +kernel
  have hfin : 1076 * 4503599627370496 < FloatKind.f64.format.infRung := by decide
  have hri : r < FloatKind.f64.format.infRung := by
    refine Nat.lt_trans ((zv_lt .f64).1 ?_) hfin
    rw [hr, hbig]
    exact Nat.mul_lt_mul_of_pos_right h (Nat.two_pow_pos D)
  clear hD hbig
  have hn : (sg s C).natAbs = C := by unfold sg; split <;> omega
  have e : fd (sg s C) = FloatKind.f64.format.nearest (decide (sg s C < 0)) C 0 := by
    show FloatKind.f64.format.nearest (decide (sg s C < 0)) (sg s C).natAbs 0 = _
    rw [hn]
  have hrr : rung .f64 (fd (sg s C)) = r := by
    rw [e]
    refine nearest_exact .f64 _ (b := -(D : Int)) hri (by omega) (by omega) ?_
    rw [h2, show (-(D : Int) - -(D : Int)).toNat = 0 by omega, show ((0 : Int) - -(D : Int)).toNat = D by omega, Nat.pow_zero, Nat.mul_one, hr]
  refine ⟨by rw [hrr]; exact hri, by rw [hrr, hr], fun h0 => ?_⟩
  rw [e, sgn_nearR]
  unfold sg
  cases s
  · simp
  · simp; omega
theorem sub_whole {x D : Nat} (hD : D = 1074) (hf : rung .f64 x < FloatKind.f64.format.infRung) (hlt : whl D x < 9007199254740992) : ∃ d, floatBits .sub .f64 x (fd (sg (sgn .f64 x) (whl D x))) = some d ∧ rung .f64 d ≤ 4607182418800017408 := by
  obtain ⟨hv1, hv2, hv3⟩ := fd_whole (s := sgn .f64 x) hD hlt
  have h2 : FloatKind.f64.format.leastPlace = -(D : Int) := by rw [hD]; decide
  have hone : rung .f64 (FloatKind.f64.format.nearest false 1 0) = 4607182418800017408 := by decide
  clear hD
  obtain ⟨m, e, hm, hz⟩ := read_fin .f64 hf
  obtain ⟨n, f, hn, hz2⟩ := read_fin .f64 hv1
  have hdm : zv .f64 (rung .f64 x) = whl D x * 2 ^ D + zv .f64 (rung .f64 x) % 2 ^ D := by unfold whl; rw [Nat.mul_comm]; exact (Nat.div_add_mod _ _).symm
  have hmod := Nat.mod_lt (zv .f64 (rung .f64 x)) (Nat.two_pow_pos D)
  obtain ⟨C, hC⟩ : ∃ C, C = whl D x := ⟨_, rfl⟩
  rw [← hC] at hv1 hv2 hv3 hn hz2 hdm hlt ⊢
  simp only [floatBits, Format.sub, hm, hn, Datum.opposite, Datum.sum, Option.map_some]
  refine ⟨_, rfl, ?_⟩
  rw [← hone]
  refine nearest_mono .f64 _ _ (b := FloatKind.f64.format.leastPlace) (by omega) (by omega) (by omega) ?_
  rw [h2]
  have e1 : (min (-(D : Int) + (e : Int)) (-(D : Int) + (f : Int)) - -(D : Int)).toNat = min e f := by omega
  have e3 : (-(D : Int) + (e : Int) - min (-(D : Int) + (e : Int)) (-(D : Int) + (f : Int))).toNat = e - min e f := by omega
  have e4 : (-(D : Int) + (f : Int) - min (-(D : Int) + (e : Int)) (-(D : Int) + (f : Int))).toNat = f - min e f := by omega
  have e5 : ((0 : Int) - -(D : Int)).toNat = D := by omega
  rw [e1, e3, e4, e5]
  have sgd : ∀ (s : Bool) (a u : Nat), signed s a u = sg s (a * 2 ^ u) := by intro s a u; simp only [signed, sg, Nat.shiftLeft_eq]
  rw [sgd, sgd]
  have a1 : m * 2 ^ (e - min e f) * 2 ^ min e f = C * 2 ^ D + zv .f64 (rung .f64 x) % 2 ^ D := by
    rw [Nat.mul_assoc, ← Nat.pow_add, Nat.sub_add_cancel (Nat.min_le_left ..), ← hz]; exact hdm
  have a2 : n * 2 ^ (f - min e f) * 2 ^ min e f = C * 2 ^ D := by
    rw [Nat.mul_assoc, ← Nat.pow_add, Nat.sub_add_cancel (Nat.min_le_right ..), ← hz2]; exact hv2
  generalize zv .f64 (rung .f64 x) % 2 ^ D = R at *
  generalize m * 2 ^ (e - min e f) = M at *
  generalize n * 2 ^ (f - min e f) = N' at *
  have hle : N' ≤ M := Nat.le_of_mul_le_mul_right (show N' * 2 ^ min e f ≤ M * 2 ^ min e f by rw [a1, a2]; omega) (Nat.two_pow_pos _)
  have hdiff : (M - N') * 2 ^ min e f = R := by rw [Nat.sub_mul, a1, a2]; omega
  have hab : (sg (sgn .f64 x) M + sg (!sgn .f64 (fd (sg (sgn .f64 x) C))) N').natAbs = M - N' := by
    by_cases h0 : C = 0
    · have hN : N' = 0 := by
        rw [h0, Nat.zero_mul] at a2
        rcases Nat.mul_eq_zero.1 a2 with h | h
        · exact h
        · have := Nat.two_pow_pos (min e f); omega
      rw [hN]
      unfold sg
      generalize sgn .f64 (fd (sg (sgn .f64 x) C)) = t
      generalize sgn .f64 x = u
      cases u <;> cases t <;> simp
    · rw [hv3 h0]
      unfold sg
      cases sgn .f64 x
      · simp; omega
      · simp; omega
  rw [hab, hdiff, Nat.one_mul]
  exact Nat.le_of_lt hmod
end Fl
end Go.Proofs.Ytmdnalkfndoicaa

/- Sines of phases: both sides. -/
set_option linter.unusedVariables false
set_option linter.unusedSimpArgs false
namespace Go.Proofs.Ytmdnalkfndoicaa
open Fl Go.RowKit Ieee
theorem sw64 : FloatKind.f64.format.signWeight = 9223372036854775808 := by decide
/-- 2 to the power of 52 -/
def c52 : Nat := 4841369599423283200
/-- a number of less size, against one that is not -/
theorem ord_lt {x c : Nat} (hx : ab .f64 x = some x) (hc : ab .f64 c = some c) (h : rung .f64 x < rung .f64 c52) (sc : sgn .f64 c = false) (h2 : rung .f64 c52 ≤ rung .f64 c) : FloatKind.f64.format.order x c = some .lt := by
  rw [order_key .f64 hx hc]
  unfold key
  rw [sc]
  have : sg (sgn .f64 x) (rung .f64 x) < sg false (rung .f64 c) := by unfold sg; simp only [Bool.false_eq_true, if_false]; split <;> omega
  simp [compare, compareOfLessAndEq, this]
theorem ord_gt {x c : Nat} (hx : ab .f64 x = some x) (hc : ab .f64 c = some c) (h : rung .f64 x < rung .f64 c52) (sc : sgn .f64 c = true) (h2 : rung .f64 c52 ≤ rung .f64 c) : FloatKind.f64.format.order x c = some .gt := by
  rw [order_key .f64 hx hc]
  unfold key
  rw [sc]
  have h3 : sg true (rung .f64 c) < sg (sgn .f64 x) (rung .f64 x) := by unfold sg; simp only [if_true]; split <;> omega
  have h4 : ¬ sg (sgn .f64 x) (rung .f64 x) < sg true (rung .f64 c) := by omega
  have h5 : ¬ sg (sgn .f64 x) (rung .f64 x) = sg true (rung .f64 c) := by omega
  simp [compare, compareOfLessAndEq, h4, h5]
theorem ab_size {x : Nat} (h : rung .f64 x < rung .f64 c52) : ab .f64 (x % 9223372036854775808) = some (x % 9223372036854775808) := by
  rw [ab64]
  have h1 : x % 9223372036854775808 < rung .f64 c52 := by unfold rung at h; rw [sw64] at h; exact h
  have h2 : rung .f64 c52 = 4841369599423283200 := by decide
  rw [if_neg (by omega)]
theorem abx {x : Nat} (h : rung .f64 x < rung .f64 c52) : ab .f64 x = some x := by
  rw [ab64]
  have h1 : x % 9223372036854775808 < rung .f64 c52 := by unfold rung at h; rw [sw64] at h; exact h
  have h2 : rung .f64 c52 = 4841369599423283200 := by decide
  rw [if_neg (by omega)]
theorem bitsc64 {p : Nat} (hp : p < 18446744073709551616) : bits .andNot .u64 (p : Int) 9223372036854775808 = ((p % 9223372036854775808 : Nat) : Int) := by
  have h := u64_andNot_nat p 9223372036854775808 hp (by decide)
  have e : ((9223372036854775808 : Nat) : Int) = 9223372036854775808 := rfl
  rw [e] at h
  rw [h]
  have e2 : (18446744073709551615 - 9223372036854775808 : Nat) = 2 ^ 63 - 1 := rfl
  rw [e2, Nat.and_two_pow_sub_one_eq_mod]
@[go_sem] theorem Try.f64bits (b : Nat) (w : World) : (callFunc 122 #[.float .f64 b]).run Try.prog w = .ok (.value (.int .u64 b)) w := by
  rw [run_callFunc_extern (P := Try.prog) (fn := Try.f122) (e := Extern.MathFloatBits.float64bits) (by kernel_rfl) (by kernel_rfl) (by kernel_rfl) (by kernel_rfl) (by kernel_rfl)]
  rfl
set_option maxRecDepth 100000 in
theorem mathAbs64 (x : Nat) (w : World) (hx : x < 18446744073709551616) :
    Calls Try.prog 117 #[.float .f64 x] w fun e w' => e = .returned (.float .f64 (x % 9223372036854775808)) ∧ w = w' := by
  have hb := bitsc64 hx
  go_enter Try.func117, Try.ntmps117
  go_wp2
  go_ret
  exact ⟨by simp, rfl⟩
theorem mathNaN0 (x : Nat) (w : World) (h : ab .f64 x = some x) : Calls Try.prog 114 #[.float .f64 x] w fun e w' => e = .returned (.bool false) ∧ w = w' := by
  have hs : FloatKind.f64.format.order x x = some .eq := ord_self x h
  clear h
  go_enter Try.func114, Try.ntmps114
  go_wp2
  go_ret
  exact ⟨rfl, rfl⟩
set_option maxRecDepth 100000 in
theorem mathInf0 (x : Nat) (w : World) (hx : x < 18446744073709551616) (h : rung .f64 x < rung .f64 c52) : Calls Try.prog 115 #[.float .f64 x, .int .i64 0] w fun e w' => e = .returned (.bool false) ∧ w = w' := by
  have h1 : rung .f64 (x % 9223372036854775808) < rung .f64 c52 := by unfold rung at *; rw [sw64] at *; rw [Nat.mod_mod]; exact h
  have ho := ord_lt (c := 9218868437227405311) (ab_size h) (by rw [ab64]; rfl) h1 (by decide) (by decide)
  clear h h1
  go_enter Try.func115, Try.ntmps115
  go_wp2_with (go_at_call 117; refine (mathAbs64 _ _ hx).mono ?_; rintro e w' ⟨rfl, rfl⟩)
  go_ret
  exact ⟨rfl, rfl⟩
/-- the whole part of a number -/
def wpI (y : Nat) : Int := sg (sgn .f64 y) (whl 1074 y)
theorem whl_lt {y : Nat} (h : rung .f64 y < rung .f64 c52) : whl 1074 y < 4503599627370496 := by
  obtain ⟨D, hD⟩ : ∃ D : Nat, D = 1074 := ⟨_, rfl⟩
  have hz : zv .f64 (rung .f64 c52) = 4503599627370496 * 2 ^ D := by rw [hD]; decide +kernel
  rw [← hD]
  clear hD
  have h1 : zv .f64 (rung .f64 y) < 4503599627370496 * 2 ^ D := by rw [← hz]; exact (zv_lt .f64).2 h
  unfold whl
  exact Nat.div_lt_of_lt_mul (by rw [Nat.mul_comm]; exact h1)
theorem fin52 {y : Nat} (h : rung .f64 y < rung .f64 c52) : rung .f64 y < FloatKind.f64.format.infRung := Nat.lt_trans h (by decide)
def sinF0 (y : Nat) : O := opO .sub .f64 (some y) (some (floatOfInt .f64 (wpI y)))
theorem sinF0_size {y : Nat} (h : rung .f64 y < rung .f64 c52) : ∃ f, sinF0 y = some f ∧ rung .f64 f ≤ rung .f64 cOne := by
  obtain ⟨d, h1, h2⟩ := sub_whole (D := 1074) rfl (fin52 h) (Nat.lt_trans (whl_lt h) (by decide))
  exact ⟨d, h1, h2⟩
theorem conv0 {y : Nat} (h : rung .f64 y < rung .f64 c52) (w : World) : (convert 33 2 (.float .f64 y)).run Try.prog w = .ok (.int .i64 (wpI y)) w :=
  run_convert_float_int w 33 2 .f64 .i64 y (wpI y) (by kernel_rfl) (by kernel_rfl) (toInt_whole (D := 1074) rfl (fin52 h) (Nat.lt_trans (whl_lt h) (by decide)))
set_option maxHeartbeats 2000000 in
set_option maxRecDepth 100000 in
theorem implPart_any (y : Nat) (w : World) (hy : y < 18446744073709551616) (h : rung .f64 y < rung .f64 c52) :
    Calls Try.prog 118 #[.float .f64 y] w (RetF .f64 (sinF1 (sinF0 y)) w) := by
  have hcv := conv0 h
  have hy2 := fv64c hy (abx h)
  have h0 := fqi (wpI y)
  have k1 := fq1
  clear h
  cases e : lt64 (sinF0 y) (some 0)
  · have eF : sinF1 (sinF0 y) = sinF0 y := by unfold sinF1; rw [e]; rfl
    rw [eF]
    unfold sinF0 at *
    go_enter Try.func118, Try.ntmps118
    go_wp2_with (first | (with_reducible_and_instances refine Lo.wpList_fo _ rfl .sub _ _ _ _ rfl _ _ _ _ _ rfl rfl rfl (by assumption) (by assumption) ?_; intro r1 n1 hr1; have g := lt64_fv hr1 fqz; rw [e] at g))
    go_ret
    exact ⟨_, _, rfl, hr1.out, rfl⟩
  · have eF : sinF1 (sinF0 y) = opO .add .f64 (sinF0 y) (some cOne) := by unfold sinF1; rw [e]; rfl
    rw [eF]
    unfold sinF0 at *
    go_enter Try.func118, Try.ntmps118
    go_wp2_with (first | (with_reducible_and_instances refine Lo.wpList_fo _ rfl .sub _ _ _ _ rfl _ _ _ _ _ rfl rfl rfl (by assumption) (by assumption) ?_; intro r1 n1 hr1; have g := lt64_fv hr1 fqz; rw [e] at g) | (with_reducible_and_instances refine Lo.wpList_fo _ rfl _ _ _ _ _ rfl _ _ _ _ _ rfl rfl rfl (by assumption) (by assumption) ?_; intro rr nn hrr))
    go_ret
    exact ⟨_, _, rfl, hrr.out, rfl⟩
end Go.Proofs.Ytmdnalkfndoicaa

/- Sines of phases: both sides. -/
set_option linter.unusedVariables false
set_option linter.unusedSimpArgs false
namespace Go.Proofs.Ytmdnalkfndoicaa
open Fl Go.RowKit Ieee
theorem neg64_fv {b : Nat} {X : O} (h : Hid (Fv .f64 b X)) : Hid (Fv .f64 (Op.negFloat .f64 b) (X.map (Op.negFloat .f64))) := Lib.hid ⟨neg_lt .f64 h.out.1, by rw [ab_neg, h.out.2]⟩
theorem sinB_of {F : O} {b1 b2 : Bool} (h1 : gt64 F (some cHalf) = b1) (h2 : eq64 F (some cHalf) = b2) : sinB F = (b1 || b2) := by unfold sinB ge64; rw [h1, h2]
theorem sinR_no {f : O} {F1 : O} (h : sinF1 f = F1) (hb : sinB F1 = false) : sinR f = ser (opO .mul .f64 (sinF3 F1) (some c2pi)) := by
  unfold sinR sinS sinF2; rw [h, hb]; rfl
theorem sinR_yes {f : O} {F1 : O} (h : sinF1 f = F1) (hb : sinB F1 = true) : sinR f = (ser (opO .mul .f64 (sinF3 (opO .sub .f64 F1 (some cHalf))) (some c2pi))).map (Op.negFloat .f64) := by
  unfold sinR sinS sinF2; rw [h, hb]; rfl
theorem sinF3_no {f : O} (h : gt64 f (some cQuar) = false) : sinF3 f = f := by unfold sinF3; rw [h]; rfl
theorem sinF3_yes {f : O} (h : gt64 f (some cQuar) = true) : sinF3 f = opO .sub .f64 (some cHalf) f := by unfold sinF3; rw [h]; rfl
set_option maxHeartbeats 8000000 in
set_option maxRecDepth 100000 in
theorem implSine_any (y : Nat) (w : World) (hy : y < 18446744073709551616) (h : rung .f64 y < rung .f64 c52) :
    Calls Try.prog 105 #[.float .f64 y] w (RetF .f64 (sinR (sinF0 y)) w) := by
  have hN := fun w => mathNaN0 y w (abx h)
  have hI := fun w => mathInf0 y w hy h
  have h1 : rung .f64 (y % 9223372036854775808) < rung .f64 c52 := by unfold rung at *; rw [sw64] at *; rw [Nat.mod_mod]; exact h
  have ho := ord_lt (c := 4841369599423283200) (ab_size h) (by rw [ab64]; rfl) h1 (by decide) (by decide)
  have hP := fun w => implPart_any y w hy h
  have k1 := fqh; have k2 := fqp
  clear h h1
  generalize hF : sinF1 (sinF0 y) = F1 at *
  have HF := Lib.hid hF; clear hF
  cases e1 : gt64 F1 (some cHalf) <;> cases e2 : eq64 F1 (some cHalf)
  case false.false =>
    have hb : sinB F1 = false := sinB_of e1 e2
    rw [sinR_no HF.out hb]
    cases e3 : gt64 F1 (some cQuar)
    · rw [sinF3_no e3]
      go_enter Try.func105, Try.ntmps105
      go_wp2_with (first | (go_at_call 114; refine (hN _).mono ?_; rintro e w' ⟨rfl, rfl⟩) | (go_at_call 115; refine (hI _).mono ?_; rintro e w' ⟨rfl, rfl⟩) | (go_at_call 117; refine (mathAbs64 _ _ hy).mono ?_; rintro e w' ⟨rfl, rfl⟩) | (go_at_call 118; refine (hP _).mono ?_; rintro e w' ⟨f1, m1, rfl, hv, rfl⟩; have hf1 := Lib.hid hv; clear hv; have g1 := gt64_fv hf1 fqh; have g2 := eq64_fv hf1 fqh; have g3 := gt64_fv hf1 fqq; rw [e1] at g1; rw [e2] at g2; rw [e3] at g3) | (go_at_call 119; refine (implSeries_any _ _ _ (by assumption)).mono ?_; rintro e w' ⟨r9, m9, rfl, hv, rfl⟩; have hr9 := Lib.hid hv; clear hv) | (with_reducible_and_instances refine Lo.wpList_fo _ rfl _ _ _ _ _ rfl _ _ _ _ _ rfl rfl rfl (by assumption) (by assumption) ?_; intro rr nn hrr))
      go_ret
      exact ⟨_, _, rfl, hr9.out, rfl⟩
    · rw [sinF3_yes e3]
      go_enter Try.func105, Try.ntmps105
      go_wp2_with (first | (go_at_call 114; refine (hN _).mono ?_; rintro e w' ⟨rfl, rfl⟩) | (go_at_call 115; refine (hI _).mono ?_; rintro e w' ⟨rfl, rfl⟩) | (go_at_call 117; refine (mathAbs64 _ _ hy).mono ?_; rintro e w' ⟨rfl, rfl⟩) | (go_at_call 118; refine (hP _).mono ?_; rintro e w' ⟨f1, m1, rfl, hv, rfl⟩; have hf1 := Lib.hid hv; clear hv; have g1 := gt64_fv hf1 fqh; have g2 := eq64_fv hf1 fqh; rw [e1] at g1; rw [e2] at g2; have g3 := gt64_fv hf1 fqq; rw [e3] at g3) | (go_at_call 119; refine (implSeries_any _ _ _ (by assumption)).mono ?_; rintro e w' ⟨r9, m9, rfl, hv, rfl⟩; have hr9 := Lib.hid hv; clear hv) | (with_reducible_and_instances refine Lo.wpList_fo _ rfl _ _ _ _ _ rfl _ _ _ _ _ rfl rfl rfl (by assumption) (by assumption) ?_; intro rr nn hrr))
      go_ret
      exact ⟨_, _, rfl, hr9.out, rfl⟩
  all_goals
    have hb : sinB F1 = true := sinB_of e1 e2
    rw [sinR_yes HF.out hb]
    cases e3 : gt64 (opO .sub .f64 F1 (some cHalf)) (some cQuar)
    · rw [sinF3_no e3]
      go_enter Try.func105, Try.ntmps105
      go_wp2_with (first | (go_at_call 114; refine (hN _).mono ?_; rintro e w' ⟨rfl, rfl⟩) | (go_at_call 115; refine (hI _).mono ?_; rintro e w' ⟨rfl, rfl⟩) | (go_at_call 117; refine (mathAbs64 _ _ hy).mono ?_; rintro e w' ⟨rfl, rfl⟩) | (go_at_call 118; refine (hP _).mono ?_; rintro e w' ⟨f1, m1, rfl, hv, rfl⟩; have hf1 := Lib.hid hv; clear hv; have g1 := gt64_fv hf1 fqh; have g2 := eq64_fv hf1 fqh; rw [e1] at g1; rw [e2] at g2) | (go_at_call 119; refine (implSeries_any _ _ _ (by assumption)).mono ?_; rintro e w' ⟨r9, m9, rfl, hv, rfl⟩; have hr9 := Lib.hid hv; clear hv) | (with_reducible_and_instances refine Lo.wpList_fo _ rfl .sub _ _ _ _ rfl _ _ _ _ _ rfl rfl rfl hf1 k1 ?_; intro r2 n2 hr2; have g3 := gt64_fv hr2 fqq; rw [e3] at g3) | (with_reducible_and_instances refine Lo.wpList_fo _ rfl _ _ _ _ _ rfl _ _ _ _ _ rfl rfl rfl (by assumption) (by assumption) ?_; intro rr nn hrr))
      go_ret
      exact ⟨_, _, rfl, (neg64_fv hr9).out, rfl⟩
    · rw [sinF3_yes e3]
      go_enter Try.func105, Try.ntmps105
      go_wp2_with (first | (go_at_call 114; refine (hN _).mono ?_; rintro e w' ⟨rfl, rfl⟩) | (go_at_call 115; refine (hI _).mono ?_; rintro e w' ⟨rfl, rfl⟩) | (go_at_call 117; refine (mathAbs64 _ _ hy).mono ?_; rintro e w' ⟨rfl, rfl⟩) | (go_at_call 118; refine (hP _).mono ?_; rintro e w' ⟨f1, m1, rfl, hv, rfl⟩; have hf1 := Lib.hid hv; clear hv; have g1 := gt64_fv hf1 fqh; have g2 := eq64_fv hf1 fqh; rw [e1] at g1; rw [e2] at g2) | (go_at_call 119; refine (implSeries_any _ _ _ (by assumption)).mono ?_; rintro e w' ⟨r9, m9, rfl, hv, rfl⟩; have hr9 := Lib.hid hv; clear hv) | (with_reducible_and_instances refine Lo.wpList_fo _ rfl .sub _ _ _ _ rfl _ _ _ _ _ rfl rfl rfl hf1 k1 ?_; intro r2 n2 hr2; have g3 := gt64_fv hr2 fqq; rw [e3] at g3) | (with_reducible_and_instances refine Lo.wpList_fo _ rfl _ _ _ _ _ rfl _ _ _ _ _ rfl rfl rfl (by assumption) (by assumption) ?_; intro rr nn hrr))
      go_ret
      exact ⟨_, _, rfl, (neg64_fv hr9).out, rfl⟩
end Go.Proofs.Ytmdnalkfndoicaa

/- Sines of phases: the model's; both sides narrowed. -/
set_option linter.unusedVariables false
set_option linter.unusedSimpArgs false
namespace Go.Proofs.Ytmdnalkfndoicaa
open Fl Go.RowKit Ieee
theorem sub_self64 {y : Nat} (h : rung .f64 y < rung .f64 c52) : opO .sub .f64 (some y) (some y) = some 0 := by
  have h1 := sub_self_any .f64 y
  rw [abx h] at h1
  rw [h1, if_pos (Nat.lt_trans h (by decide))]
theorem ord00 : ordO .f64 (some 0) (some 0) = some .eq := by decide +kernel
set_option maxHeartbeats 8000000 in
set_option maxRecDepth 100000 in
theorem specSine_000 (y : Nat) (w : World) (hy : y < 18446744073709551616) (h : rung .f64 y < rung .f64 c52) (b1 b2 : Bool) (el : lt64 (sinF0 y) (some 0) = false) (h1 : gt64 (sinF0 y) (some cHalf) = b1) (h2 : eq64 (sinF0 y) (some cHalf) = b2) (hb : (b1 || b2) = false) (e3 : gt64 (sinF0 y) (some cQuar) = false) :
    Calls Try.prog 113 #[.float .f64 y] w (RetF .f64 (ser (opO .mul .f64 (sinF0 y) (some c2pi))) w) := by
  have hcv := conv0 h
  have hy2 := fv64c hy (abx h)
  have e00 := sub_self64 h
  have ho1 := ord_lt (c := 4841369599423283200) (abx h) (by rw [ab64]; rfl) h (by decide) (by decide)
  have ho2 := ord_gt (c := 14064741636278059008) (abx h) (by rw [ab64]; rfl) h (by decide) (by decide)
  have h0 := fqi (wpI y)
  have k1 := fqh; have k2 := fqp; have k3 := fq1
  clear h
  have E00 := Lib.hid e00; clear e00
  cases b1 <;> cases b2 <;> simp only [Bool.or_self, Bool.or_true, Bool.true_or, Bool.false_eq_true, Bool.true_eq_false] at hb
  all_goals
    go_enter Try.func113, Try.ntmps113
    go_wp2_with (first | (with_reducible_and_instances refine Lo.wpList_fo _ rfl .sub _ _ _ _ rfl _ _ _ _ _ rfl rfl rfl hy2 hy2 ?_; intro r0 n0 hr0; rw [E00.out] at hr0; have g0 := ord_fv hr0 fqz; rw [ord00] at g0) | (with_reducible_and_instances refine Lo.wpList_fo _ rfl .sub _ _ _ _ rfl _ _ _ _ _ rfl rfl rfl hy2 h0 ?_; intro r1 n1 hr1; have gl := lt64_fv hr1 fqz; rw [show opO .sub .f64 (some y) (some (floatOfInt .f64 (wpI y))) = sinF0 y from rfl] at hr1 gl; rw [el] at gl; have g1 := gt64_fv hr1 fqh; have g2 := eq64_fv hr1 fqh; rw [h1] at g1; rw [h2] at g2; have g3 := gt64_fv hr1 fqq; rw [e3] at g3) | (with_reducible_and_instances refine Lo.wpList_fo _ rfl .mul _ _ _ _ rfl _ _ _ _ _ rfl rfl rfl hr1 k2 ?_; intro rz nz hz) | (with_reducible_and_instances refine Lo.wpList_fo _ rfl .mul _ _ _ _ rfl _ _ _ _ _ rfl rfl rfl hz hz ?_; intro ru nu hu))
    generalize hZ : opO .mul .f64 (sinF0 y) (some c2pi) = Z at *
    clear hZ
    go_loopw [7, 8] (fun p kk wr => ∃ (k m r : Nat), k ≤ 8 ∧ kk = .int .i64 k ∧ p = .float .f64 r ∧ Hid (Fv .f64 r (sinP (opO .mul .f64 Z Z) (8 - k))) ∧ wr = w.drewN m) (fun _ kk _ => (intOf kk).toNat)
    case atStart => exact ⟨8, _, _, Nat.le_refl _, rfl, rfl, fq1, rfl⟩
    case round =>
      obtain ⟨k, m, r, hk, rfl, rfl, hr, rfl⟩ := hrel
      by_cases hlt : 1 ≤ k
      · obtain ⟨M, hM⟩ : ∃ M, 2 * k * (2 * k + 1) = M := ⟨_, rfl⟩
        have hM2 : 2 * (k : Int) * (2 * (k : Int) + 1) = (M : Int) := by rw [← hM]; push_cast; rfl
        have hMb : M ≤ 272 := by rw [← hM]; exact Nat.mul_le_mul (show 2 * k ≤ 16 by omega) (show 2 * k + 1 ≤ 17 by omega)
        have hi := fqi (M : Int)
        have eK : Hid (sinP (opO .mul .f64 Z Z) (8 - (k - 1)) = opO .sub .f64 (some cOne) (opO .quo .f64 (opO .mul .f64 (opO .mul .f64 Z Z) (sinP (opO .mul .f64 Z Z) (8 - k))) (some (floatOfInt .f64 (M : Int))))) := Lib.hid (by
          rw [show 8 - (k - 1) = (8 - k) + 1 by omega, ← hM, ← sinK_of (by omega)]; rfl)
        clear hM
        go_wp2_with (with_reducible_and_instances refine Lo.wpList_fo _ rfl _ _ _ _ _ rfl _ _ _ _ _ rfl rfl rfl (by assumption) (by assumption) ?_; intro rr nn hrr)
        rw [← eK.out] at hrr
        go_roundw
        case rel => exact ⟨k - 1, _, _, by omega, by go_num, rfl, hrr, rfl⟩
        case measure => simp [intOf]; omega
      · obtain rfl : k = 0 := by omega
        rw [show ((0 : Nat) : Int) = 0 from rfl]
        go_wp2_with (with_reducible_and_instances refine Lo.wpList_fo _ rfl _ _ _ _ _ rfl _ _ _ _ _ rfl rfl rfl (by assumption) (by assumption) ?_; intro rr nn hrr)
        go_ret
        exact ⟨_, _, rfl, hrr.out, rfl⟩
set_option maxHeartbeats 8000000 in
set_option maxRecDepth 100000 in
theorem specSine_001 (y : Nat) (w : World) (hy : y < 18446744073709551616) (h : rung .f64 y < rung .f64 c52) (b1 b2 : Bool) (el : lt64 (sinF0 y) (some 0) = false) (h1 : gt64 (sinF0 y) (some cHalf) = b1) (h2 : eq64 (sinF0 y) (some cHalf) = b2) (hb : (b1 || b2) = false) (e3 : gt64 (sinF0 y) (some cQuar) = true) :
    Calls Try.prog 113 #[.float .f64 y] w (RetF .f64 (ser (opO .mul .f64 (opO .sub .f64 (some cHalf) (sinF0 y)) (some c2pi))) w) := by
  have hcv := conv0 h
  have hy2 := fv64c hy (abx h)
  have e00 := sub_self64 h
  have ho1 := ord_lt (c := 4841369599423283200) (abx h) (by rw [ab64]; rfl) h (by decide) (by decide)
  have ho2 := ord_gt (c := 14064741636278059008) (abx h) (by rw [ab64]; rfl) h (by decide) (by decide)
  have h0 := fqi (wpI y)
  have k1 := fqh; have k2 := fqp; have k3 := fq1
  clear h
  have E00 := Lib.hid e00; clear e00
  cases b1 <;> cases b2 <;> simp only [Bool.or_self, Bool.or_true, Bool.true_or, Bool.false_eq_true, Bool.true_eq_false] at hb
  all_goals
    go_enter Try.func113, Try.ntmps113
    go_wp2_with (first | (with_reducible_and_instances refine Lo.wpList_fo _ rfl .sub _ _ _ _ rfl _ _ _ _ _ rfl rfl rfl hy2 hy2 ?_; intro r0 n0 hr0; rw [E00.out] at hr0; have g0 := ord_fv hr0 fqz; rw [ord00] at g0) | (with_reducible_and_instances refine Lo.wpList_fo _ rfl .sub _ _ _ _ rfl _ _ _ _ _ rfl rfl rfl hy2 h0 ?_; intro r1 n1 hr1; have gl := lt64_fv hr1 fqz; rw [show opO .sub .f64 (some y) (some (floatOfInt .f64 (wpI y))) = sinF0 y from rfl] at hr1 gl; rw [el] at gl; have g1 := gt64_fv hr1 fqh; have g2 := eq64_fv hr1 fqh; rw [h1] at g1; rw [h2] at g2; have g3 := gt64_fv hr1 fqq; rw [e3] at g3) | (with_reducible_and_instances refine Lo.wpList_fo _ rfl .sub _ _ _ _ rfl _ _ _ _ _ rfl rfl rfl k1 hr1 ?_; intro r4 n4 hr4) | (with_reducible_and_instances refine Lo.wpList_fo _ rfl .mul _ _ _ _ rfl _ _ _ _ _ rfl rfl rfl hr4 k2 ?_; intro rz nz hz) | (with_reducible_and_instances refine Lo.wpList_fo _ rfl .mul _ _ _ _ rfl _ _ _ _ _ rfl rfl rfl hz hz ?_; intro ru nu hu))
    generalize hZ : opO .mul .f64 (opO .sub .f64 (some cHalf) (sinF0 y)) (some c2pi) = Z at *
    clear hZ
    go_loopw [7, 8] (fun p kk wr => ∃ (k m r : Nat), k ≤ 8 ∧ kk = .int .i64 k ∧ p = .float .f64 r ∧ Hid (Fv .f64 r (sinP (opO .mul .f64 Z Z) (8 - k))) ∧ wr = w.drewN m) (fun _ kk _ => (intOf kk).toNat)
    case atStart => exact ⟨8, _, _, Nat.le_refl _, rfl, rfl, fq1, rfl⟩
    case round =>
      obtain ⟨k, m, r, hk, rfl, rfl, hr, rfl⟩ := hrel
      by_cases hlt : 1 ≤ k
      · obtain ⟨M, hM⟩ : ∃ M, 2 * k * (2 * k + 1) = M := ⟨_, rfl⟩
        have hM2 : 2 * (k : Int) * (2 * (k : Int) + 1) = (M : Int) := by rw [← hM]; push_cast; rfl
        have hMb : M ≤ 272 := by rw [← hM]; exact Nat.mul_le_mul (show 2 * k ≤ 16 by omega) (show 2 * k + 1 ≤ 17 by omega)
        have hi := fqi (M : Int)
        have eK : Hid (sinP (opO .mul .f64 Z Z) (8 - (k - 1)) = opO .sub .f64 (some cOne) (opO .quo .f64 (opO .mul .f64 (opO .mul .f64 Z Z) (sinP (opO .mul .f64 Z Z) (8 - k))) (some (floatOfInt .f64 (M : Int))))) := Lib.hid (by
          rw [show 8 - (k - 1) = (8 - k) + 1 by omega, ← hM, ← sinK_of (by omega)]; rfl)
        clear hM
        go_wp2_with (with_reducible_and_instances refine Lo.wpList_fo _ rfl _ _ _ _ _ rfl _ _ _ _ _ rfl rfl rfl (by assumption) (by assumption) ?_; intro rr nn hrr)
        rw [← eK.out] at hrr
        go_roundw
        case rel => exact ⟨k - 1, _, _, by omega, by go_num, rfl, hrr, rfl⟩
        case measure => simp [intOf]; omega
      · obtain rfl : k = 0 := by omega
        rw [show ((0 : Nat) : Int) = 0 from rfl]
        go_wp2_with (with_reducible_and_instances refine Lo.wpList_fo _ rfl _ _ _ _ _ rfl _ _ _ _ _ rfl rfl rfl (by assumption) (by assumption) ?_; intro rr nn hrr)
        go_ret
        exact ⟨_, _, rfl, hrr.out, rfl⟩
set_option maxHeartbeats 8000000 in
set_option maxRecDepth 100000 in
theorem specSine_010 (y : Nat) (w : World) (hy : y < 18446744073709551616) (h : rung .f64 y < rung .f64 c52) (b1 b2 : Bool) (el : lt64 (sinF0 y) (some 0) = false) (h1 : gt64 (sinF0 y) (some cHalf) = b1) (h2 : eq64 (sinF0 y) (some cHalf) = b2) (hb : (b1 || b2) = true) (e3 : gt64 (opO .sub .f64 (sinF0 y) (some cHalf)) (some cQuar) = false) :
    Calls Try.prog 113 #[.float .f64 y] w (RetF .f64 ((ser (opO .mul .f64 (opO .sub .f64 (sinF0 y) (some cHalf)) (some c2pi))).map (Op.negFloat .f64)) w) := by
  have hcv := conv0 h
  have hy2 := fv64c hy (abx h)
  have e00 := sub_self64 h
  have ho1 := ord_lt (c := 4841369599423283200) (abx h) (by rw [ab64]; rfl) h (by decide) (by decide)
  have ho2 := ord_gt (c := 14064741636278059008) (abx h) (by rw [ab64]; rfl) h (by decide) (by decide)
  have h0 := fqi (wpI y)
  have k1 := fqh; have k2 := fqp; have k3 := fq1
  clear h
  have E00 := Lib.hid e00; clear e00
  cases b1 <;> cases b2 <;> simp only [Bool.or_self, Bool.or_true, Bool.true_or, Bool.false_eq_true, Bool.true_eq_false] at hb
  all_goals
    go_enter Try.func113, Try.ntmps113
    go_wp2_with (first | (with_reducible_and_instances refine Lo.wpList_fo _ rfl .sub _ _ _ _ rfl _ _ _ _ _ rfl rfl rfl hy2 hy2 ?_; intro r0 n0 hr0; rw [E00.out] at hr0; have g0 := ord_fv hr0 fqz; rw [ord00] at g0) | (with_reducible_and_instances refine Lo.wpList_fo _ rfl .sub _ _ _ _ rfl _ _ _ _ _ rfl rfl rfl hy2 h0 ?_; intro r1 n1 hr1; have gl := lt64_fv hr1 fqz; rw [show opO .sub .f64 (some y) (some (floatOfInt .f64 (wpI y))) = sinF0 y from rfl] at hr1 gl; rw [el] at gl; have g1 := gt64_fv hr1 fqh; have g2 := eq64_fv hr1 fqh; rw [h1] at g1; rw [h2] at g2) | (with_reducible_and_instances refine Lo.wpList_fo _ rfl .sub _ _ _ _ rfl _ _ _ _ _ rfl rfl rfl hr1 k1 ?_; intro r3 n3 hr3; have g3 := gt64_fv hr3 fqq; rw [e3] at g3) | (with_reducible_and_instances refine Lo.wpList_fo _ rfl .mul _ _ _ _ rfl _ _ _ _ _ rfl rfl rfl hr3 k2 ?_; intro rz nz hz) | (with_reducible_and_instances refine Lo.wpList_fo _ rfl .mul _ _ _ _ rfl _ _ _ _ _ rfl rfl rfl hz hz ?_; intro ru nu hu))
    generalize hZ : opO .mul .f64 (opO .sub .f64 (sinF0 y) (some cHalf)) (some c2pi) = Z at *
    clear hZ
    go_loopw [7, 8] (fun p kk wr => ∃ (k m r : Nat), k ≤ 8 ∧ kk = .int .i64 k ∧ p = .float .f64 r ∧ Hid (Fv .f64 r (sinP (opO .mul .f64 Z Z) (8 - k))) ∧ wr = w.drewN m) (fun _ kk _ => (intOf kk).toNat)
    case atStart => exact ⟨8, _, _, Nat.le_refl _, rfl, rfl, fq1, rfl⟩
    case round =>
      obtain ⟨k, m, r, hk, rfl, rfl, hr, rfl⟩ := hrel
      by_cases hlt : 1 ≤ k
      · obtain ⟨M, hM⟩ : ∃ M, 2 * k * (2 * k + 1) = M := ⟨_, rfl⟩
        have hM2 : 2 * (k : Int) * (2 * (k : Int) + 1) = (M : Int) := by rw [← hM]; push_cast; rfl
        have hMb : M ≤ 272 := by rw [← hM]; exact Nat.mul_le_mul (show 2 * k ≤ 16 by omega) (show 2 * k + 1 ≤ 17 by omega)
        have hi := fqi (M : Int)
        have eK : Hid (sinP (opO .mul .f64 Z Z) (8 - (k - 1)) = opO .sub .f64 (some cOne) (opO .quo .f64 (opO .mul .f64 (opO .mul .f64 Z Z) (sinP (opO .mul .f64 Z Z) (8 - k))) (some (floatOfInt .f64 (M : Int))))) := Lib.hid (by
          rw [show 8 - (k - 1) = (8 - k) + 1 by omega, ← hM, ← sinK_of (by omega)]; rfl)
        clear hM
        go_wp2_with (with_reducible_and_instances refine Lo.wpList_fo _ rfl _ _ _ _ _ rfl _ _ _ _ _ rfl rfl rfl (by assumption) (by assumption) ?_; intro rr nn hrr)
        rw [← eK.out] at hrr
        go_roundw
        case rel => exact ⟨k - 1, _, _, by omega, by go_num, rfl, hrr, rfl⟩
        case measure => simp [intOf]; omega
      · obtain rfl : k = 0 := by omega
        rw [show ((0 : Nat) : Int) = 0 from rfl]
        go_wp2_with (with_reducible_and_instances refine Lo.wpList_fo _ rfl _ _ _ _ _ rfl _ _ _ _ _ rfl rfl rfl (by assumption) (by assumption) ?_; intro rr nn hrr)
        go_ret
        exact ⟨_, _, rfl, (neg64_fv hrr).out, rfl⟩
set_option maxHeartbeats 8000000 in
set_option maxRecDepth 100000 in
theorem specSine_011 (y : Nat) (w : World) (hy : y < 18446744073709551616) (h : rung .f64 y < rung .f64 c52) (b1 b2 : Bool) (el : lt64 (sinF0 y) (some 0) = false) (h1 : gt64 (sinF0 y) (some cHalf) = b1) (h2 : eq64 (sinF0 y) (some cHalf) = b2) (hb : (b1 || b2) = true) (e3 : gt64 (opO .sub .f64 (sinF0 y) (some cHalf)) (some cQuar) = true) :
    Calls Try.prog 113 #[.float .f64 y] w (RetF .f64 ((ser (opO .mul .f64 (opO .sub .f64 (some cHalf) (opO .sub .f64 (sinF0 y) (some cHalf))) (some c2pi))).map (Op.negFloat .f64)) w) := by
  have hcv := conv0 h
  have hy2 := fv64c hy (abx h)
  have e00 := sub_self64 h
  have ho1 := ord_lt (c := 4841369599423283200) (abx h) (by rw [ab64]; rfl) h (by decide) (by decide)
  have ho2 := ord_gt (c := 14064741636278059008) (abx h) (by rw [ab64]; rfl) h (by decide) (by decide)
  have h0 := fqi (wpI y)
  have k1 := fqh; have k2 := fqp; have k3 := fq1
  clear h
  have E00 := Lib.hid e00; clear e00
  cases b1 <;> cases b2 <;> simp only [Bool.or_self, Bool.or_true, Bool.true_or, Bool.false_eq_true, Bool.true_eq_false] at hb
  all_goals
    go_enter Try.func113, Try.ntmps113
    go_wp2_with (first | (with_reducible_and_instances refine Lo.wpList_fo _ rfl .sub _ _ _ _ rfl _ _ _ _ _ rfl rfl rfl hy2 hy2 ?_; intro r0 n0 hr0; rw [E00.out] at hr0; have g0 := ord_fv hr0 fqz; rw [ord00] at g0) | (with_reducible_and_instances refine Lo.wpList_fo _ rfl .sub _ _ _ _ rfl _ _ _ _ _ rfl rfl rfl hy2 h0 ?_; intro r1 n1 hr1; have gl := lt64_fv hr1 fqz; rw [show opO .sub .f64 (some y) (some (floatOfInt .f64 (wpI y))) = sinF0 y from rfl] at hr1 gl; rw [el] at gl; have g1 := gt64_fv hr1 fqh; have g2 := eq64_fv hr1 fqh; rw [h1] at g1; rw [h2] at g2) | (with_reducible_and_instances refine Lo.wpList_fo _ rfl .sub _ _ _ _ rfl _ _ _ _ _ rfl rfl rfl hr1 k1 ?_; intro r3 n3 hr3; have g3 := gt64_fv hr3 fqq; rw [e3] at g3) | (with_reducible_and_instances refine Lo.wpList_fo _ rfl .sub _ _ _ _ rfl _ _ _ _ _ rfl rfl rfl k1 hr3 ?_; intro r4 n4 hr4) | (with_reducible_and_instances refine Lo.wpList_fo _ rfl .mul _ _ _ _ rfl _ _ _ _ _ rfl rfl rfl hr4 k2 ?_; intro rz nz hz) | (with_reducible_and_instances refine Lo.wpList_fo _ rfl .mul _ _ _ _ rfl _ _ _ _ _ rfl rfl rfl hz hz ?_; intro ru nu hu))
    generalize hZ : opO .mul .f64 (opO .sub .f64 (some cHalf) (opO .sub .f64 (sinF0 y) (some cHalf))) (some c2pi) = Z at *
    clear hZ
    go_loopw [7, 8] (fun p kk wr => ∃ (k m r : Nat), k ≤ 8 ∧ kk = .int .i64 k ∧ p = .float .f64 r ∧ Hid (Fv .f64 r (sinP (opO .mul .f64 Z Z) (8 - k))) ∧ wr = w.drewN m) (fun _ kk _ => (intOf kk).toNat)
    case atStart => exact ⟨8, _, _, Nat.le_refl _, rfl, rfl, fq1, rfl⟩
    case round =>
      obtain ⟨k, m, r, hk, rfl, rfl, hr, rfl⟩ := hrel
      by_cases hlt : 1 ≤ k
      · obtain ⟨M, hM⟩ : ∃ M, 2 * k * (2 * k + 1) = M := ⟨_, rfl⟩
        have hM2 : 2 * (k : Int) * (2 * (k : Int) + 1) = (M : Int) := by rw [← hM]; push_cast; rfl
        have hMb : M ≤ 272 := by rw [← hM]; exact Nat.mul_le_mul (show 2 * k ≤ 16 by omega) (show 2 * k + 1 ≤ 17 by omega)
        have hi := fqi (M : Int)
        have eK : Hid (sinP (opO .mul .f64 Z Z) (8 - (k - 1)) = opO .sub .f64 (some cOne) (opO .quo .f64 (opO .mul .f64 (opO .mul .f64 Z Z) (sinP (opO .mul .f64 Z Z) (8 - k))) (some (floatOfInt .f64 (M : Int))))) := Lib.hid (by
          rw [show 8 - (k - 1) = (8 - k) + 1 by omega, ← hM, ← sinK_of (by omega)]; rfl)
        clear hM
        go_wp2_with (with_reducible_and_instances refine Lo.wpList_fo _ rfl _ _ _ _ _ rfl _ _ _ _ _ rfl rfl rfl (by assumption) (by assumption) ?_; intro rr nn hrr)
        rw [← eK.out] at hrr
        go_roundw
        case rel => exact ⟨k - 1, _, _, by omega, by go_num, rfl, hrr, rfl⟩
        case measure => simp [intOf]; omega
      · obtain rfl : k = 0 := by omega
        rw [show ((0 : Nat) : Int) = 0 from rfl]
        go_wp2_with (with_reducible_and_instances refine Lo.wpList_fo _ rfl _ _ _ _ _ rfl _ _ _ _ _ rfl rfl rfl (by assumption) (by assumption) ?_; intro rr nn hrr)
        go_ret
        exact ⟨_, _, rfl, (neg64_fv hrr).out, rfl⟩
set_option maxHeartbeats 8000000 in
set_option maxRecDepth 100000 in
theorem specSine_100 (y : Nat) (w : World) (hy : y < 18446744073709551616) (h : rung .f64 y < rung .f64 c52) (b1 b2 : Bool) (el : lt64 (sinF0 y) (some 0) = true) (h1 : gt64 (opO .add .f64 (sinF0 y) (some cOne)) (some cHalf) = b1) (h2 : eq64 (opO .add .f64 (sinF0 y) (some cOne)) (some cHalf) = b2) (hb : (b1 || b2) = false) (e3 : gt64 (opO .add .f64 (sinF0 y) (some cOne)) (some cQuar) = false) :
    Calls Try.prog 113 #[.float .f64 y] w (RetF .f64 (ser (opO .mul .f64 (opO .add .f64 (sinF0 y) (some cOne)) (some c2pi))) w) := by
  have hcv := conv0 h
  have hy2 := fv64c hy (abx h)
  have e00 := sub_self64 h
  have ho1 := ord_lt (c := 4841369599423283200) (abx h) (by rw [ab64]; rfl) h (by decide) (by decide)
  have ho2 := ord_gt (c := 14064741636278059008) (abx h) (by rw [ab64]; rfl) h (by decide) (by decide)
  have h0 := fqi (wpI y)
  have k1 := fqh; have k2 := fqp; have k3 := fq1
  clear h
  have E00 := Lib.hid e00; clear e00
  cases b1 <;> cases b2 <;> simp only [Bool.or_self, Bool.or_true, Bool.true_or, Bool.false_eq_true, Bool.true_eq_false] at hb
  all_goals
    go_enter Try.func113, Try.ntmps113
    go_wp2_with (first | (with_reducible_and_instances refine Lo.wpList_fo _ rfl .sub _ _ _ _ rfl _ _ _ _ _ rfl rfl rfl hy2 hy2 ?_; intro r0 n0 hr0; rw [E00.out] at hr0; have g0 := ord_fv hr0 fqz; rw [ord00] at g0) | (with_reducible_and_instances refine Lo.wpList_fo _ rfl .sub _ _ _ _ rfl _ _ _ _ _ rfl rfl rfl hy2 h0 ?_; intro r1 n1 hr1; have gl := lt64_fv hr1 fqz; rw [show opO .sub .f64 (some y) (some (floatOfInt .f64 (wpI y))) = sinF0 y from rfl] at hr1 gl; rw [el] at gl) | (with_reducible_and_instances refine Lo.wpList_fo _ rfl .add _ _ _ _ rfl _ _ _ _ _ rfl rfl rfl hr1 k3 ?_; intro r2 n2 hr2; have g1 := gt64_fv hr2 fqh; have g2 := eq64_fv hr2 fqh; rw [h1] at g1; rw [h2] at g2; have g3 := gt64_fv hr2 fqq; rw [e3] at g3) | (with_reducible_and_instances refine Lo.wpList_fo _ rfl .mul _ _ _ _ rfl _ _ _ _ _ rfl rfl rfl hr2 k2 ?_; intro rz nz hz) | (with_reducible_and_instances refine Lo.wpList_fo _ rfl .mul _ _ _ _ rfl _ _ _ _ _ rfl rfl rfl hz hz ?_; intro ru nu hu))
    generalize hZ : opO .mul .f64 (opO .add .f64 (sinF0 y) (some cOne)) (some c2pi) = Z at *
    clear hZ
    go_loopw [7, 8] (fun p kk wr => ∃ (k m r : Nat), k ≤ 8 ∧ kk = .int .i64 k ∧ p = .float .f64 r ∧ Hid (Fv .f64 r (sinP (opO .mul .f64 Z Z) (8 - k))) ∧ wr = w.drewN m) (fun _ kk _ => (intOf kk).toNat)
    case atStart => exact ⟨8, _, _, Nat.le_refl _, rfl, rfl, fq1, rfl⟩
    case round =>
      obtain ⟨k, m, r, hk, rfl, rfl, hr, rfl⟩ := hrel
      by_cases hlt : 1 ≤ k
      · obtain ⟨M, hM⟩ : ∃ M, 2 * k * (2 * k + 1) = M := ⟨_, rfl⟩
        have hM2 : 2 * (k : Int) * (2 * (k : Int) + 1) = (M : Int) := by rw [← hM]; push_cast; rfl
        have hMb : M ≤ 272 := by rw [← hM]; exact Nat.mul_le_mul (show 2 * k ≤ 16 by omega) (show 2 * k + 1 ≤ 17 by omega)
        have hi := fqi (M : Int)
        have eK : Hid (sinP (opO .mul .f64 Z Z) (8 - (k - 1)) = opO .sub .f64 (some cOne) (opO .quo .f64 (opO .mul .f64 (opO .mul .f64 Z Z) (sinP (opO .mul .f64 Z Z) (8 - k))) (some (floatOfInt .f64 (M : Int))))) := Lib.hid (by
          rw [show 8 - (k - 1) = (8 - k) + 1 by omega, ← hM, ← sinK_of (by omega)]; rfl)
        clear hM
        go_wp2_with (with_reducible_and_instances refine Lo.wpList_fo _ rfl _ _ _ _ _ rfl _ _ _ _ _ rfl rfl rfl (by assumption) (by assumption) ?_; intro rr nn hrr)
        rw [← eK.out] at hrr
        go_roundw
        case rel => exact ⟨k - 1, _, _, by omega, by go_num, rfl, hrr, rfl⟩
        case measure => simp [intOf]; omega
      · obtain rfl : k = 0 := by omega
        rw [show ((0 : Nat) : Int) = 0 from rfl]
        go_wp2_with (with_reducible_and_instances refine Lo.wpList_fo _ rfl _ _ _ _ _ rfl _ _ _ _ _ rfl rfl rfl (by assumption) (by assumption) ?_; intro rr nn hrr)
        go_ret
        exact ⟨_, _, rfl, hrr.out, rfl⟩
set_option maxHeartbeats 8000000 in
set_option maxRecDepth 100000 in
theorem specSine_101 (y : Nat) (w : World) (hy : y < 18446744073709551616) (h : rung .f64 y < rung .f64 c52) (b1 b2 : Bool) (el : lt64 (sinF0 y) (some 0) = true) (h1 : gt64 (opO .add .f64 (sinF0 y) (some cOne)) (some cHalf) = b1) (h2 : eq64 (opO .add .f64 (sinF0 y) (some cOne)) (some cHalf) = b2) (hb : (b1 || b2) = false) (e3 : gt64 (opO .add .f64 (sinF0 y) (some cOne)) (some cQuar) = true) :
    Calls Try.prog 113 #[.float .f64 y] w (RetF .f64 (ser (opO .mul .f64 (opO .sub .f64 (some cHalf) (opO .add .f64 (sinF0 y) (some cOne))) (some c2pi))) w) := by
  have hcv := conv0 h
  have hy2 := fv64c hy (abx h)
  have e00 := sub_self64 h
  have ho1 := ord_lt (c := 4841369599423283200) (abx h) (by rw [ab64]; rfl) h (by decide) (by decide)
  have ho2 := ord_gt (c := 14064741636278059008) (abx h) (by rw [ab64]; rfl) h (by decide) (by decide)
  have h0 := fqi (wpI y)
  have k1 := fqh; have k2 := fqp; have k3 := fq1
  clear h
  have E00 := Lib.hid e00; clear e00
  cases b1 <;> cases b2 <;> simp only [Bool.or_self, Bool.or_true, Bool.true_or, Bool.false_eq_true, Bool.true_eq_false] at hb
  all_goals
    go_enter Try.func113, Try.ntmps113
    go_wp2_with (first | (with_reducible_and_instances refine Lo.wpList_fo _ rfl .sub _ _ _ _ rfl _ _ _ _ _ rfl rfl rfl hy2 hy2 ?_; intro r0 n0 hr0; rw [E00.out] at hr0; have g0 := ord_fv hr0 fqz; rw [ord00] at g0) | (with_reducible_and_instances refine Lo.wpList_fo _ rfl .sub _ _ _ _ rfl _ _ _ _ _ rfl rfl rfl hy2 h0 ?_; intro r1 n1 hr1; have gl := lt64_fv hr1 fqz; rw [show opO .sub .f64 (some y) (some (floatOfInt .f64 (wpI y))) = sinF0 y from rfl] at hr1 gl; rw [el] at gl) | (with_reducible_and_instances refine Lo.wpList_fo _ rfl .add _ _ _ _ rfl _ _ _ _ _ rfl rfl rfl hr1 k3 ?_; intro r2 n2 hr2; have g1 := gt64_fv hr2 fqh; have g2 := eq64_fv hr2 fqh; rw [h1] at g1; rw [h2] at g2; have g3 := gt64_fv hr2 fqq; rw [e3] at g3) | (with_reducible_and_instances refine Lo.wpList_fo _ rfl .sub _ _ _ _ rfl _ _ _ _ _ rfl rfl rfl k1 hr2 ?_; intro r4 n4 hr4) | (with_reducible_and_instances refine Lo.wpList_fo _ rfl .mul _ _ _ _ rfl _ _ _ _ _ rfl rfl rfl hr4 k2 ?_; intro rz nz hz) | (with_reducible_and_instances refine Lo.wpList_fo _ rfl .mul _ _ _ _ rfl _ _ _ _ _ rfl rfl rfl hz hz ?_; intro ru nu hu))
    generalize hZ : opO .mul .f64 (opO .sub .f64 (some cHalf) (opO .add .f64 (sinF0 y) (some cOne))) (some c2pi) = Z at *
    clear hZ
    go_loopw [7, 8] (fun p kk wr => ∃ (k m r : Nat), k ≤ 8 ∧ kk = .int .i64 k ∧ p = .float .f64 r ∧ Hid (Fv .f64 r (sinP (opO .mul .f64 Z Z) (8 - k))) ∧ wr = w.drewN m) (fun _ kk _ => (intOf kk).toNat)
    case atStart => exact ⟨8, _, _, Nat.le_refl _, rfl, rfl, fq1, rfl⟩
    case round =>
      obtain ⟨k, m, r, hk, rfl, rfl, hr, rfl⟩ := hrel
      by_cases hlt : 1 ≤ k
      · obtain ⟨M, hM⟩ : ∃ M, 2 * k * (2 * k + 1) = M := ⟨_, rfl⟩
        have hM2 : 2 * (k : Int) * (2 * (k : Int) + 1) = (M : Int) := by rw [← hM]; push_cast; rfl
        have hMb : M ≤ 272 := by rw [← hM]; exact Nat.mul_le_mul (show 2 * k ≤ 16 by omega) (show 2 * k + 1 ≤ 17 by omega)
        have hi := fqi (M : Int)
        have eK : Hid (sinP (opO .mul .f64 Z Z) (8 - (k - 1)) = opO .sub .f64 (some cOne) (opO .quo .f64 (opO .mul .f64 (opO .mul .f64 Z Z) (sinP (opO .mul .f64 Z Z) (8 - k))) (some (floatOfInt .f64 (M : Int))))) := Lib.hid (by
          rw [show 8 - (k - 1) = (8 - k) + 1 by omega, ← hM, ← sinK_of (by omega)]; rfl)
        clear hM
        go_wp2_with (with_reducible_and_instances refine Lo.wpList_fo _ rfl _ _ _ _ _ rfl _ _ _ _ _ rfl rfl rfl (by assumption) (by assumption) ?_; intro rr nn hrr)
        rw [← eK.out] at hrr
        go_roundw
        case rel => exact ⟨k - 1, _, _, by omega, by go_num, rfl, hrr, rfl⟩
        case measure => simp [intOf]; omega
      · obtain rfl : k = 0 := by omega
        rw [show ((0 : Nat) : Int) = 0 from rfl]
        go_wp2_with (with_reducible_and_instances refine Lo.wpList_fo _ rfl _ _ _ _ _ rfl _ _ _ _ _ rfl rfl rfl (by assumption) (by assumption) ?_; intro rr nn hrr)
        go_ret
        exact ⟨_, _, rfl, hrr.out, rfl⟩
set_option maxHeartbeats 8000000 in
set_option maxRecDepth 100000 in
theorem specSine_110 (y : Nat) (w : World) (hy : y < 18446744073709551616) (h : rung .f64 y < rung .f64 c52) (b1 b2 : Bool) (el : lt64 (sinF0 y) (some 0) = true) (h1 : gt64 (opO .add .f64 (sinF0 y) (some cOne)) (some cHalf) = b1) (h2 : eq64 (opO .add .f64 (sinF0 y) (some cOne)) (some cHalf) = b2) (hb : (b1 || b2) = true) (e3 : gt64 (opO .sub .f64 (opO .add .f64 (sinF0 y) (some cOne)) (some cHalf)) (some cQuar) = false) :
    Calls Try.prog 113 #[.float .f64 y] w (RetF .f64 ((ser (opO .mul .f64 (opO .sub .f64 (opO .add .f64 (sinF0 y) (some cOne)) (some cHalf)) (some c2pi))).map (Op.negFloat .f64)) w) := by
  have hcv := conv0 h
  have hy2 := fv64c hy (abx h)
  have e00 := sub_self64 h
  have ho1 := ord_lt (c := 4841369599423283200) (abx h) (by rw [ab64]; rfl) h (by decide) (by decide)
  have ho2 := ord_gt (c := 14064741636278059008) (abx h) (by rw [ab64]; rfl) h (by decide) (by decide)
  have h0 := fqi (wpI y)
  have k1 := fqh; have k2 := fqp; have k3 := fq1
  clear h
  have E00 := Lib.hid e00; clear e00
  cases b1 <;> cases b2 <;> simp only [Bool.or_self, Bool.or_true, Bool.true_or, Bool.false_eq_true, Bool.true_eq_false] at hb
  all_goals
    go_enter Try.func113, Try.ntmps113
    go_wp2_with (first | (with_reducible_and_instances refine Lo.wpList_fo _ rfl .sub _ _ _ _ rfl _ _ _ _ _ rfl rfl rfl hy2 hy2 ?_; intro r0 n0 hr0; rw [E00.out] at hr0; have g0 := ord_fv hr0 fqz; rw [ord00] at g0) | (with_reducible_and_instances refine Lo.wpList_fo _ rfl .sub _ _ _ _ rfl _ _ _ _ _ rfl rfl rfl hy2 h0 ?_; intro r1 n1 hr1; have gl := lt64_fv hr1 fqz; rw [show opO .sub .f64 (some y) (some (floatOfInt .f64 (wpI y))) = sinF0 y from rfl] at hr1 gl; rw [el] at gl) | (with_reducible_and_instances refine Lo.wpList_fo _ rfl .add _ _ _ _ rfl _ _ _ _ _ rfl rfl rfl hr1 k3 ?_; intro r2 n2 hr2; have g1 := gt64_fv hr2 fqh; have g2 := eq64_fv hr2 fqh; rw [h1] at g1; rw [h2] at g2) | (with_reducible_and_instances refine Lo.wpList_fo _ rfl .sub _ _ _ _ rfl _ _ _ _ _ rfl rfl rfl hr2 k1 ?_; intro r3 n3 hr3; have g3 := gt64_fv hr3 fqq; rw [e3] at g3) | (with_reducible_and_instances refine Lo.wpList_fo _ rfl .mul _ _ _ _ rfl _ _ _ _ _ rfl rfl rfl hr3 k2 ?_; intro rz nz hz) | (with_reducible_and_instances refine Lo.wpList_fo _ rfl .mul _ _ _ _ rfl _ _ _ _ _ rfl rfl rfl hz hz ?_; intro ru nu hu))
    generalize hZ : opO .mul .f64 (opO .sub .f64 (opO .add .f64 (sinF0 y) (some cOne)) (some cHalf)) (some c2pi) = Z at *
    clear hZ
    go_loopw [7, 8] (fun p kk wr => ∃ (k m r : Nat), k ≤ 8 ∧ kk = .int .i64 k ∧ p = .float .f64 r ∧ Hid (Fv .f64 r (sinP (opO .mul .f64 Z Z) (8 - k))) ∧ wr = w.drewN m) (fun _ kk _ => (intOf kk).toNat)
    case atStart => exact ⟨8, _, _, Nat.le_refl _, rfl, rfl, fq1, rfl⟩
    case round =>
      obtain ⟨k, m, r, hk, rfl, rfl, hr, rfl⟩ := hrel
      by_cases hlt : 1 ≤ k
      · obtain ⟨M, hM⟩ : ∃ M, 2 * k * (2 * k + 1) = M := ⟨_, rfl⟩
        have hM2 : 2 * (k : Int) * (2 * (k : Int) + 1) = (M : Int) := by rw [← hM]; push_cast; rfl
        have hMb : M ≤ 272 := by rw [← hM]; exact Nat.mul_le_mul (show 2 * k ≤ 16 by omega) (show 2 * k + 1 ≤ 17 by omega)
        have hi := fqi (M : Int)
        have eK : Hid (sinP (opO .mul .f64 Z Z) (8 - (k - 1)) = opO .sub .f64 (some cOne) (opO .quo .f64 (opO .mul .f64 (opO .mul .f64 Z Z) (sinP (opO .mul .f64 Z Z) (8 - k))) (some (floatOfInt .f64 (M : Int))))) := Lib.hid (by
          rw [show 8 - (k - 1) = (8 - k) + 1 by omega, ← hM, ← sinK_of (by omega)]; rfl)
        clear hM
        go_wp2_with (with_reducible_and_instances refine Lo.wpList_fo _ rfl _ _ _ _ _ rfl _ _ _ _ _ rfl rfl rfl (by assumption) (by assumption) ?_; intro rr nn hrr)
        rw [← eK.out] at hrr
        go_roundw
        case rel => exact ⟨k - 1, _, _, by omega, by go_num, rfl, hrr, rfl⟩
        case measure => simp [intOf]; omega
      · obtain rfl : k = 0 := by omega
        rw [show ((0 : Nat) : Int) = 0 from rfl]
        go_wp2_with (with_reducible_and_instances refine Lo.wpList_fo _ rfl _ _ _ _ _ rfl _ _ _ _ _ rfl rfl rfl (by assumption) (by assumption) ?_; intro rr nn hrr)
        go_ret
        exact ⟨_, _, rfl, (neg64_fv hrr).out, rfl⟩
set_option maxHeartbeats 8000000 in
set_option maxRecDepth 100000 in
theorem specSine_111 (y : Nat) (w : World) (hy : y < 18446744073709551616) (h : rung .f64 y < rung .f64 c52) (b1 b2 : Bool) (el : lt64 (sinF0 y) (some 0) = true) (h1 : gt64 (opO .add .f64 (sinF0 y) (some cOne)) (some cHalf) = b1) (h2 : eq64 (opO .add .f64 (sinF0 y) (some cOne)) (some cHalf) = b2) (hb : (b1 || b2) = true) (e3 : gt64 (opO .sub .f64 (opO .add .f64 (sinF0 y) (some cOne)) (some cHalf)) (some cQuar) = true) :
    Calls Try.prog 113 #[.float .f64 y] w (RetF .f64 ((ser (opO .mul .f64 (opO .sub .f64 (some cHalf) (opO .sub .f64 (opO .add .f64 (sinF0 y) (some cOne)) (some cHalf))) (some c2pi))).map (Op.negFloat .f64)) w) := by
  have hcv := conv0 h
  have hy2 := fv64c hy (abx h)
  have e00 := sub_self64 h
  have ho1 := ord_lt (c := 4841369599423283200) (abx h) (by rw [ab64]; rfl) h (by decide) (by decide)
  have ho2 := ord_gt (c := 14064741636278059008) (abx h) (by rw [ab64]; rfl) h (by decide) (by decide)
  have h0 := fqi (wpI y)
  have k1 := fqh; have k2 := fqp; have k3 := fq1
  clear h
  have E00 := Lib.hid e00; clear e00
  cases b1 <;> cases b2 <;> simp only [Bool.or_self, Bool.or_true, Bool.true_or, Bool.false_eq_true, Bool.true_eq_false] at hb
  all_goals
    go_enter Try.func113, Try.ntmps113
    go_wp2_with (first | (with_reducible_and_instances refine Lo.wpList_fo _ rfl .sub _ _ _ _ rfl _ _ _ _ _ rfl rfl rfl hy2 hy2 ?_; intro r0 n0 hr0; rw [E00.out] at hr0; have g0 := ord_fv hr0 fqz; rw [ord00] at g0) | (with_reducible_and_instances refine Lo.wpList_fo _ rfl .sub _ _ _ _ rfl _ _ _ _ _ rfl rfl rfl hy2 h0 ?_; intro r1 n1 hr1; have gl := lt64_fv hr1 fqz; rw [show opO .sub .f64 (some y) (some (floatOfInt .f64 (wpI y))) = sinF0 y from rfl] at hr1 gl; rw [el] at gl) | (with_reducible_and_instances refine Lo.wpList_fo _ rfl .add _ _ _ _ rfl _ _ _ _ _ rfl rfl rfl hr1 k3 ?_; intro r2 n2 hr2; have g1 := gt64_fv hr2 fqh; have g2 := eq64_fv hr2 fqh; rw [h1] at g1; rw [h2] at g2) | (with_reducible_and_instances refine Lo.wpList_fo _ rfl .sub _ _ _ _ rfl _ _ _ _ _ rfl rfl rfl hr2 k1 ?_; intro r3 n3 hr3; have g3 := gt64_fv hr3 fqq; rw [e3] at g3) | (with_reducible_and_instances refine Lo.wpList_fo _ rfl .sub _ _ _ _ rfl _ _ _ _ _ rfl rfl rfl k1 hr3 ?_; intro r4 n4 hr4) | (with_reducible_and_instances refine Lo.wpList_fo _ rfl .mul _ _ _ _ rfl _ _ _ _ _ rfl rfl rfl hr4 k2 ?_; intro rz nz hz) | (with_reducible_and_instances refine Lo.wpList_fo _ rfl .mul _ _ _ _ rfl _ _ _ _ _ rfl rfl rfl hz hz ?_; intro ru nu hu))
    generalize hZ : opO .mul .f64 (opO .sub .f64 (some cHalf) (opO .sub .f64 (opO .add .f64 (sinF0 y) (some cOne)) (some cHalf))) (some c2pi) = Z at *
    clear hZ
    go_loopw [7, 8] (fun p kk wr => ∃ (k m r : Nat), k ≤ 8 ∧ kk = .int .i64 k ∧ p = .float .f64 r ∧ Hid (Fv .f64 r (sinP (opO .mul .f64 Z Z) (8 - k))) ∧ wr = w.drewN m) (fun _ kk _ => (intOf kk).toNat)
    case atStart => exact ⟨8, _, _, Nat.le_refl _, rfl, rfl, fq1, rfl⟩
    case round =>
      obtain ⟨k, m, r, hk, rfl, rfl, hr, rfl⟩ := hrel
      by_cases hlt : 1 ≤ k
      · obtain ⟨M, hM⟩ : ∃ M, 2 * k * (2 * k + 1) = M := ⟨_, rfl⟩
        have hM2 : 2 * (k : Int) * (2 * (k : Int) + 1) = (M : Int) := by rw [← hM]; push_cast; rfl
        have hMb : M ≤ 272 := by rw [← hM]; exact Nat.mul_le_mul (show 2 * k ≤ 16 by omega) (show 2 * k + 1 ≤ 17 by omega)
        have hi := fqi (M : Int)
        have eK : Hid (sinP (opO .mul .f64 Z Z) (8 - (k - 1)) = opO .sub .f64 (some cOne) (opO .quo .f64 (opO .mul .f64 (opO .mul .f64 Z Z) (sinP (opO .mul .f64 Z Z) (8 - k))) (some (floatOfInt .f64 (M : Int))))) := Lib.hid (by
          rw [show 8 - (k - 1) = (8 - k) + 1 by omega, ← hM, ← sinK_of (by omega)]; rfl)
        clear hM
        go_wp2_with (with_reducible_and_instances refine Lo.wpList_fo _ rfl _ _ _ _ _ rfl _ _ _ _ _ rfl rfl rfl (by assumption) (by assumption) ?_; intro rr nn hrr)
        rw [← eK.out] at hrr
        go_roundw
        case rel => exact ⟨k - 1, _, _, by omega, by go_num, rfl, hrr, rfl⟩
        case measure => simp [intOf]; omega
      · obtain rfl : k = 0 := by omega
        rw [show ((0 : Nat) : Int) = 0 from rfl]
        go_wp2_with (with_reducible_and_instances refine Lo.wpList_fo _ rfl _ _ _ _ _ rfl _ _ _ _ _ rfl rfl rfl (by assumption) (by assumption) ?_; intro rr nn hrr)
        go_ret
        exact ⟨_, _, rfl, (neg64_fv hrr).out, rfl⟩
theorem specSineWide_any (y : Nat) (w : World) (hy : y < 18446744073709551616) (h : rung .f64 y < rung .f64 c52) :
    Calls Try.prog 113 #[.float .f64 y] w (RetF .f64 (sinR (sinF0 y)) w) := by
  cases el : lt64 (sinF0 y) (some 0)
  · have hF : sinF1 (sinF0 y) = (sinF0 y) := by unfold sinF1; rw [el]; rfl
    cases hb : sinB (sinF0 y)
    · rw [sinR_no hF hb]
      have hb2 : (gt64 (sinF0 y) (some cHalf) || eq64 (sinF0 y) (some cHalf)) = false := hb
      cases e3 : gt64 (sinF0 y) (some cQuar)
      · rw [sinF3_no e3]; exact specSine_000 y w hy h _ _ el rfl rfl hb2 e3
      · rw [sinF3_yes e3]; exact specSine_001 y w hy h _ _ el rfl rfl hb2 e3
    · rw [sinR_yes hF hb]
      have hb2 : (gt64 (sinF0 y) (some cHalf) || eq64 (sinF0 y) (some cHalf)) = true := hb
      cases e3 : gt64 (opO .sub .f64 (sinF0 y) (some cHalf)) (some cQuar)
      · rw [sinF3_no e3]; exact specSine_010 y w hy h _ _ el rfl rfl hb2 e3
      · rw [sinF3_yes e3]; exact specSine_011 y w hy h _ _ el rfl rfl hb2 e3
  · have hF : sinF1 (sinF0 y) = (opO .add .f64 (sinF0 y) (some cOne)) := by unfold sinF1; rw [el]; rfl
    cases hb : sinB (opO .add .f64 (sinF0 y) (some cOne))
    · rw [sinR_no hF hb]
      have hb2 : (gt64 (opO .add .f64 (sinF0 y) (some cOne)) (some cHalf) || eq64 (opO .add .f64 (sinF0 y) (some cOne)) (some cHalf)) = false := hb
      cases e3 : gt64 (opO .add .f64 (sinF0 y) (some cOne)) (some cQuar)
      · rw [sinF3_no e3]; exact specSine_100 y w hy h _ _ el rfl rfl hb2 e3
      · rw [sinF3_yes e3]; exact specSine_101 y w hy h _ _ el rfl rfl hb2 e3
    · rw [sinR_yes hF hb]
      have hb2 : (gt64 (opO .add .f64 (sinF0 y) (some cOne)) (some cHalf) || eq64 (opO .add .f64 (sinF0 y) (some cOne)) (some cHalf)) = true := hb
      cases e3 : gt64 (opO .sub .f64 (opO .add .f64 (sinF0 y) (some cOne)) (some cHalf)) (some cQuar)
      · rw [sinF3_no e3]; exact specSine_110 y w hy h _ _ el rfl rfl hb2 e3
      · rw [sinF3_yes e3]; exact specSine_111 y w hy h _ _ el rfl rfl hb2 e3
end Go.Proofs.Ytmdnalkfndoicaa

/- SineTurns of phases, of both sides. -/
set_option linter.unusedVariables false
set_option linter.unusedSimpArgs false
namespace Go.Proofs.Ytmdnalkfndoicaa
open Fl Go.RowKit Ieee
def wideW (x : Nat) : Nat := FloatKind.f64.encode (FloatKind.f32.decode x)
theorem wide_small {x : Nat} (h : rung .f32 x < rung .f32 1501560832) : rung .f64 (wideW x) < rung .f64 c52 := by
  obtain ⟨D, hD⟩ : ∃ D, D = 925 := ⟨_, rfl⟩
  have h1 := (wide_zv (b := x) (Nat.lt_trans h (by decide)) D hD).2
  have h2 := (wide_zv (b := 1501560832) (by decide) D hD).2
  rw [show FloatKind.f64.encode (FloatKind.f32.decode 1501560832) = c52 by decide +kernel] at h2
  refine (zv_lt .f64).1 ?_
  unfold wideW
  rw [h1, h2]
  exact Nat.mul_lt_mul_of_pos_right ((zv_lt .f32).2 h) (Nat.two_pow_pos D)
theorem turn_small {x : Nat} {X : O} (hx : Fv .f32 x X) (ht : turnB X = true) : X = some x ∧ rung .f32 x < rung .f32 1065353216 := by
  unfold turnB geO at ht
  rw [Bool.and_eq_true] at ht
  obtain ⟨h1, h2⟩ := ht
  cases X with
  | none => cases h2
  | some b =>
    obtain rfl := ab_some hx.2
    refine ⟨rfl, ?_⟩
    have h3 : FloatKind.f32.format.order b 1065353216 = some .lt := by unfold ltO ordO at h2; simpa using h2
    have h4 : FloatKind.f32.format.order b 0 = some .gt ∨ FloatKind.f32.format.order b 0 = some .eq := by unfold gtO eqO ordO at h1; simpa using h1
    have c1 : ab .f32 1065353216 = some 1065353216 := by rw [ab32]; rfl
    have c0 : ab .f32 0 = some 0 := by rw [ab32]; rfl
    rw [order_key .f32 hx.2 c1] at h3
    rw [order_key .f32 hx.2 c0] at h4
    have k1 : key .f32 1065353216 = (rung .f32 1065353216 : Nat) := by decide
    have k0 : key .f32 0 = 0 := by decide
    rw [k1] at h3
    rw [k0] at h4
    have h5 : key .f32 b < ((rung .f32 1065353216 : Nat) : Int) := by
      simp only [compare, compareOfLessAndEq, Option.some.injEq] at h3
      split at h3
      · assumption
      · split at h3 <;> cases h3
    have h6 : 0 ≤ key .f32 b := by
      rcases h4 with h4 | h4
      · simp only [compare, compareOfLessAndEq, Option.some.injEq] at h4
        split at h4
        · cases h4
        · omega
      · simp only [compare, compareOfLessAndEq, Option.some.injEq] at h4
        split at h4
        · cases h4
        · omega
    have h7 : 0 < rung .f32 1065353216 := by decide
    unfold key sg at h5 h6
    split at h5 <;> simp_all <;> omega
def sinX : O → O
  | some b => convO .f64 .f32 (sinR (sinF0 (wideW b)))
  | none => none
set_option maxRecDepth 100000 in
theorem implSineS_any (x : Nat) (w : World) (hx : Hid (Fv .f32 x (some x))) (hs : rung .f32 x < rung .f32 1501560832) :
    Calls Try.prog 70 #[.float .f32 x] w (RetF .f32 (sinX (some x)) w) := by
  have h1 := wide_small hs
  obtain ⟨f, hf, hfb⟩ := sinF0_size h1
  clear hs
  go_enter Try.func70, Try.ntmps70
  go_wp2_with (with_reducible_and_instances refine Lo.wpList_wi _ rfl _ _ _ rfl _ _ rfl (by kernel_rfl) (by kernel_rfl) (by assumption) ?_; intro rr nn hrr)
  have h2 : Fv .f64 rr (some (wideW x)) := hrr.out
  obtain rfl := ab_some h2.2
  have h3 := h2.1
  clear h2 hrr
  refine (implSine_any _ _ h3 h1).mono ?_
  rintro e w' ⟨r2, q2, rfl, hv, rfl⟩
  have V2 := Lib.hid hv
  clear hv
  go_wp2_with fail
  refine (implNarrow_any _ _ V2.out.1 (fits_sin hfb (by have := V2.out; rw [hf] at this; exact this))).mono ?_
  rintro e w' ⟨r3, q3, rfl, hv, rfl⟩
  have V3 : Hid (Fv .f32 r3 (sinX (some x))) := Lib.hid (by rw [V2.out.2] at hv; exact hv)
  clear hv
  go_wp2
  go_ret
  exact ⟨r3, _, rfl, V3.out, rfl⟩
set_option maxRecDepth 100000 in
theorem specSineS_any (x : Nat) (w : World) (hx : Hid (Fv .f32 x (some x))) (hs : rung .f32 x < rung .f32 1501560832) :
    Calls Try.prog 103 #[.float .f32 x] w (RetF .f32 (sinX (some x)) w) := by
  have h1 := wide_small hs
  obtain ⟨f, hf, hfb⟩ := sinF0_size h1
  clear hs
  go_enter Try.func103, Try.ntmps103
  go_wp2_with (with_reducible_and_instances refine Lo.wpList_wi _ rfl _ _ _ rfl _ _ rfl (by kernel_rfl) (by kernel_rfl) (by assumption) ?_; intro rr nn hrr)
  have h2 : Fv .f64 rr (some (wideW x)) := hrr.out
  obtain rfl := ab_some h2.2
  have h3 := h2.1
  clear h2 hrr
  refine (specSineWide_any _ _ h3 h1).mono ?_
  rintro e w' ⟨r2, q2, rfl, hv, rfl⟩
  have V2 := Lib.hid hv
  clear hv
  go_wp2_with fail
  refine (specNarrow_any _ _ V2.out.1 (fits_sin hfb (by have := V2.out; rw [hf] at this; exact this))).mono ?_
  rintro e w' ⟨r3, q3, rfl, hv, rfl⟩
  have V3 : Hid (Fv .f32 r3 (sinX (some x))) := Lib.hid (by rw [V2.out.2] at hv; exact hv)
  clear hv
  go_wp2
  go_ret
  exact ⟨r3, _, rfl, V3.out, rfl⟩
theorem implSineT_any (x : Nat) (X : O) (w : World) (hx : Hid (Fv .f32 x X)) (ht : turnB X = true) :
    Calls Try.prog 70 #[.float .f32 x] w (RetF .f32 (sinX X) w) := by
  obtain ⟨rfl, hs⟩ := turn_small hx.out ht
  exact implSineS_any x w hx (Nat.lt_trans hs (by decide))
theorem specSineT_any (x : Nat) (X : O) (w : World) (hx : Hid (Fv .f32 x X)) (ht : turnB X = true) :
    Calls Try.prog 103 #[.float .f32 x] w (RetF .f32 (sinX X) w) := by
  obtain ⟨rfl, hs⟩ := turn_small hx.out ht
  exact specSineS_any x w hx (Nat.lt_trans hs (by decide))
end Go.Proofs.Ytmdnalkfndoicaa

/- Sines of whatever number, both sides; the law. -/
set_option linter.unusedVariables false
set_option linter.unusedSimpArgs false
namespace Go.Proofs.Ytmdnalkfndoicaa
open Fl Go.RowKit Ieee
def sinG : O → O
  | some b => if rung .f32 b < 1501560832 then sinX (some b) else if rung .f32 b < 2139095040 then some 0 else none
  | none => none
theorem sinG_some (b : Nat) : sinG (some b) = if rung .f32 b < 1501560832 then sinX (some b) else if rung .f32 b < 2139095040 then some 0 else none := rfl
theorem mathNaN_any (w : World) : Calls Try.prog 116 #[] w fun e w' => e = .returned (.float .f64 9221120237041090561) ∧ w = w' := by
  go_enter Try.func116, Try.ntmps116
  go_wp2
  go_ret
  exact ⟨rfl, rfl⟩
theorem fvNaN : Fv .f64 9221120237041090561 none := ⟨by decide, by rw [ab64]; rfl⟩
theorem fits_nanC {r : Nat} (h : Fv .f64 r none) : Fits .f64 .f32 r := by
  refine .inr ?_
  have hn := read_nan (k := .f64) (b := r)
  rw [h.2] at hn
  cases hd : FloatKind.f64.decode r with
  | nan s f => trivial
  | infinity s => trivial
  | number g m e =>
    have hd' : FloatKind.f64.format.read r = .number g m e := hd
    rw [hd'] at hn; cases hn
open Fl Go.RowKit Ieee

def c20 : Nat := 1101004800
def cm20 : Nat := 3248488448
def one32 : Nat := 1065353216
def mone32 : Nat := 3212836864
def mone64 : Nat := 13830554455654793216
def c2 : Nat := 4611686018427387904
theorem fitsNaN : Fits .f64 .f32 9221120237041090561 := fits_nanC fvNaN
theorem mathNaN1 (x : Nat) (w : World) (h : ab .f64 x = none) : Calls Try.prog 114 #[.float .f64 x] w fun e w' => e = .returned (.bool true) ∧ w = w' := by
  have hs : FloatKind.f64.format.order x x = none := by rw [order_ab, h]; rfl
  clear h
  go_enter Try.func114, Try.ntmps114
  go_wp2
  go_ret
  exact ⟨rfl, rfl⟩
theorem ord3 {x c : Nat} (hx : ab .f64 x = some x) (hc : ab .f64 c = some c) : (key .f64 x < key .f64 c ∧ FloatKind.f64.format.order x c = some .lt) ∨ (key .f64 x = key .f64 c ∧ FloatKind.f64.format.order x c = some .eq) ∨ (key .f64 c < key .f64 x ∧ FloatKind.f64.format.order x c = some .gt) := by
  rw [order_key .f64 hx hc, cmp_def]
  rcases Int.lt_trichotomy (key .f64 x) (key .f64 c) with h | h | h
  · exact .inl ⟨h, by rw [if_pos h]⟩
  · exact .inr (.inl ⟨h, by rw [if_neg (by omega), if_pos h]⟩)
  · exact .inr (.inr ⟨h, by rw [if_neg (by omega), if_neg (by omega)]⟩)
theorem mathInf_b (x : Nat) (b : Bool) (w : World) (hx : x < 18446744073709551616) (h : (FloatKind.f64.format.order (x % 9223372036854775808) 9218868437227405311 == some .gt) = b) : Calls Try.prog 115 #[.float .f64 x, .int .i64 0] w fun e w' => e = .returned (.bool b) ∧ w = w' := by
  cases b
  all_goals
    go_enter Try.func115, Try.ntmps115
    go_wp2_with (go_at_call 117; refine (mathAbs64 _ _ hx).mono ?_; rintro e w' ⟨rfl, rfl⟩)
    go_ret
    exact ⟨rfl, rfl⟩
/-- the size of a number, as a word -/
theorem size_key {x : Nat} (h : rung .f64 x ≤ FloatKind.f64.format.infRung) : ab .f64 (x % 9223372036854775808) = some (x % 9223372036854775808) ∧ key .f64 (x % 9223372036854775808) = (rung .f64 x : Nat) := by
  have e : rung .f64 x = x % 9223372036854775808 := by unfold rung; rw [sw64]
  have e2 : FloatKind.f64.format.infRung = 9218868437227405312 := by decide
  rw [e, e2] at h
  rw [e]
  refine ⟨by rw [ab64, if_neg (by rw [Nat.mod_mod]; omega)], ?_⟩
  unfold key
  have h1 : sgn .f64 (x % 9223372036854775808) = false := by
    unfold sgn
    rw [sw64, Nat.div_eq_of_lt (Nat.mod_lt _ (by decide))]
    rfl
  have h2 : rung .f64 (x % 9223372036854775808) = x % 9223372036854775808 := by unfold rung; rw [sw64, Nat.mod_mod]
  rw [h1, h2]
  rfl
theorem k52 : key .f64 4841369599423283200 = 4841369599423283200 ∧ ab .f64 4841369599423283200 = some 4841369599423283200 ∧ key .f64 14064741636278059008 = -4841369599423283200 ∧ ab .f64 14064741636278059008 = some 14064741636278059008 ∧ rung .f64 c52 = 4841369599423283200 := by decide
theorem kmx : key .f64 9218868437227405311 = 9218868437227405311 ∧ ab .f64 9218868437227405311 = some 9218868437227405311 ∧ FloatKind.f64.format.infRung = 9218868437227405312 := by decide
set_option maxHeartbeats 2000000 in
theorem implSine_big (y : Nat) (w : World) (hy : y < 18446744073709551616) (hab : ab .f64 y = some y) (h1 : rung .f64 c52 ≤ rung .f64 y) (h2 : rung .f64 y < FloatKind.f64.format.infRung) :
    Calls Try.prog 105 #[.float .f64 y] w fun e w' => e = .returned (.float .f64 0) ∧ w = w' := by
  obtain ⟨a1, a2⟩ := size_key (Nat.le_of_lt h2)
  obtain ⟨q1, q2, q3, q4, q5⟩ := k52
  obtain ⟨m1, m2, m3⟩ := kmx
  rw [m3] at h2
  rw [q5] at h1
  have hN := fun w => mathNaN0 y w hab
  have hi : (FloatKind.f64.format.order (y % 9223372036854775808) 9218868437227405311 == some .gt) = false := by
    rcases ord3 a1 m2 with ⟨_, e⟩ | ⟨_, e⟩ | ⟨e', e⟩
    · rw [e]; rfl
    · rw [e]; rfl
    · rw [m1, a2] at e'; omega
  have hI := fun w => mathInf_b y false w hy hi
  have hg : (FloatKind.f64.format.order (y % 9223372036854775808) 4841369599423283200 == some .gt || FloatKind.f64.format.order (y % 9223372036854775808) 4841369599423283200 == some .eq) = true := by
    rcases ord3 a1 q2 with ⟨e', e⟩ | ⟨_, e⟩ | ⟨_, e⟩
    · rw [q1, a2] at e'; omega
    · rw [e]; rfl
    · rw [e]; rfl
  have HN := Lib.hid hN; have HI := Lib.hid hI
  clear hi hN hI
  go_enter Try.func105, Try.ntmps105
  go_wp2_with (first | (go_at_call 114; refine (HN.out _).mono ?_; rintro e w' ⟨rfl, rfl⟩) | (go_at_call 115; refine (HI.out _).mono ?_; rintro e w' ⟨rfl, rfl⟩) | (go_at_call 117; refine (mathAbs64 _ _ hy).mono ?_; rintro e w' ⟨rfl, rfl⟩))
  go_ret
  exact ⟨rfl, rfl⟩
set_option maxHeartbeats 2000000 in
theorem implSine_none (y : Nat) (w : World) (hy : y < 18446744073709551616) (h : ab .f64 y = none ∨ (ab .f64 y = some y ∧ rung .f64 y = FloatKind.f64.format.infRung)) :
    Calls Try.prog 105 #[.float .f64 y] w fun e w' => e = .returned (.float .f64 9221120237041090561) ∧ w = w' := by
  rcases h with h | ⟨hab, h⟩
  · have HN := Lib.hid (fun w => mathNaN1 y w h)
    go_enter Try.func105, Try.ntmps105
    go_wp2_with (first | (go_at_call 114; refine (HN.out _).mono ?_; rintro e w' ⟨rfl, rfl⟩) | (go_at_call 116; refine (mathNaN_any _).mono ?_; rintro e w' ⟨rfl, rfl⟩))
    go_ret
    exact ⟨rfl, rfl⟩
  · obtain ⟨a1, a2⟩ := size_key (Nat.le_of_eq h)
    obtain ⟨m1, m2, m3⟩ := kmx
    have hi : (FloatKind.f64.format.order (y % 9223372036854775808) 9218868437227405311 == some .gt) = true := by
      rcases ord3 a1 m2 with ⟨e', e⟩ | ⟨e', e⟩ | ⟨e', e⟩
      · rw [m1, a2, h, m3] at e'; omega
      · rw [m1, a2, h, m3] at e'; omega
      · rw [e]; rfl
    have HN := Lib.hid (fun w => mathNaN0 y w hab)
    have HI := Lib.hid (fun w => mathInf_b y true w hy hi)
    clear hi
    go_enter Try.func105, Try.ntmps105
    go_wp2_with (first | (go_at_call 114; refine (HN.out _).mono ?_; rintro e w' ⟨rfl, rfl⟩) | (go_at_call 115; refine (HI.out _).mono ?_; rintro e w' ⟨rfl, rfl⟩) | (go_at_call 116; refine (mathNaN_any _).mono ?_; rintro e w' ⟨rfl, rfl⟩))
    go_ret
    exact ⟨rfl, rfl⟩
set_option maxHeartbeats 4000000 in
theorem specSine_big (y : Nat) (w : World) (hy : y < 18446744073709551616) (hab : ab .f64 y = some y) (h1 : rung .f64 c52 ≤ rung .f64 y) (h2 : rung .f64 y < FloatKind.f64.format.infRung) :
    Calls Try.prog 113 #[.float .f64 y] w fun e w' => e = .returned (.float .f64 0) ∧ ∃ m, w.drewN m = w' := by
  obtain ⟨q1, q2, q3, q4, q5⟩ := k52
  rw [q5] at h1
  have hy2 : Hid (Fv .f64 y (some y)) := fv64c hy hab
  have E00 : Hid (opO .sub .f64 (some y) (some y) = some 0) := Lib.hid (by
    have := sub_self_any .f64 y
    rw [hab] at this
    rw [this, if_pos h2])
  have hk : key .f64 y = sg (sgn .f64 y) (rung .f64 y) := rfl
  have hg : (FloatKind.f64.format.order y 4841369599423283200 == some .gt || FloatKind.f64.format.order y 4841369599423283200 == some .eq) = true ∨ ((FloatKind.f64.format.order y 4841369599423283200 == some .gt || FloatKind.f64.format.order y 4841369599423283200 == some .eq) = false ∧ (FloatKind.f64.format.order y 14064741636278059008 == some .lt || FloatKind.f64.format.order y 14064741636278059008 == some .eq) = true) := by
    cases hs : sgn .f64 y
    · left
      rw [hs] at hk
      rcases ord3 hab q2 with ⟨e', e⟩ | ⟨_, e⟩ | ⟨_, e⟩
      · rw [q1, hk] at e'; unfold sg at e'; simp at e'; omega
      · rw [e]; rfl
      · rw [e]; rfl
    · right
      rw [hs] at hk
      refine ⟨?_, ?_⟩
      · rcases ord3 hab q2 with ⟨_, e⟩ | ⟨e', e⟩ | ⟨e', e⟩
        · rw [e]; rfl
        · rw [q1, hk] at e'; unfold sg at e'; simp at e'; omega
        · rw [q1, hk] at e'; unfold sg at e'; simp at e'; omega
      · rcases ord3 hab q4 with ⟨_, e⟩ | ⟨_, e⟩ | ⟨e', e⟩
        · rw [e]; rfl
        · rw [e]; rfl
        · rw [q3, hk] at e'; unfold sg at e'; simp at e'; omega
  clear hk h1 h2 q1 q2 q3 q4 q5
  rcases hg with hg | ⟨hg, hg2⟩
  all_goals
    go_enter Try.func113, Try.ntmps113
    go_wp2_with (first | (with_reducible_and_instances refine Lo.wpList_fo _ rfl .sub _ _ _ _ rfl _ _ _ _ _ rfl rfl rfl hy2 hy2 ?_; intro r0 n0 hr0; rw [E00.out] at hr0; have g0 := ord_fv hr0 fqz; rw [ord00] at g0))
    go_ret
    exact ⟨rfl, _, rfl⟩
set_option maxHeartbeats 4000000 in
theorem specSine_none (y : Nat) (Y : O) (w : World) (hy : Hid (Fv .f64 y Y)) (h : opO .sub .f64 Y Y = none) :
    Calls Try.prog 113 #[.float .f64 y] w fun e w' => e = .returned (.float .f64 9221120237041090561) ∧ ∃ m, w.drewN m = w' := by
  have E00 := Lib.hid h
  have ord0 : ordO .f64 none (some 0) = none := rfl
  clear h
  go_enter Try.func113, Try.ntmps113
  go_wp2_with (first | (with_reducible_and_instances refine Lo.wpList_fo _ rfl .sub _ _ _ _ rfl _ _ _ _ _ rfl rfl rfl hy hy ?_; intro r0 n0 hr0; rw [E00.out] at hr0; have g0 := ord_fv hr0 fqz; rw [ord0] at g0) | (go_at_call 116; refine (mathNaN_any _).mono ?_; rintro e w' ⟨rfl, rfl⟩))
  go_ret
  exact ⟨rfl, _, rfl⟩
theorem fv_wordC {k : FloatKind} {r u : Nat} (h : Hid (Fv k r (some u))) : r = u := by
  have := h.out.2
  unfold ab at this
  split at this
  · cases this
  · injection this
/-- what a 32-bit number becomes in 64 bits -/
theorem wide_cases {x : Nat} (hx : ab .f32 x = some x) (h : ¬ rung .f32 x < 1501560832) : ab .f64 (wideW x) = some (wideW x) ∧ ((rung .f32 x < 2139095040 ∧ rung .f64 c52 ≤ rung .f64 (wideW x) ∧ rung .f64 (wideW x) < FloatKind.f64.format.infRung) ∨ (¬ rung .f32 x < 2139095040 ∧ rung .f64 (wideW x) = FloatKind.f64.format.infRung)) := by
  have hab := ab_wide hx
  refine ⟨hab, ?_⟩
  have hi : FloatKind.f32.format.infRung = 2139095040 := by decide
  by_cases h2 : rung .f32 x < 2139095040
  · left
    obtain ⟨D, hD⟩ : ∃ D, D = 925 := ⟨_, rfl⟩
    have e1 := wide_zv (b := x) (by rw [hi]; exact h2) D hD
    have e2 := (wide_zv (b := 1501560832) (by decide) D hD).2
    rw [show FloatKind.f64.encode (FloatKind.f32.decode 1501560832) = c52 by decide +kernel] at e2
    have e3 := (wide_zv (b := 2139095039) (by decide) D hD).2
    have hm : rung .f64 (FloatKind.f64.encode (FloatKind.f32.decode 2139095039)) < FloatKind.f64.format.infRung := by decide +kernel
    refine ⟨h2, ?_, Nat.lt_of_le_of_lt ?_ hm⟩
    · refine (zv_le .f64).1 ?_
      unfold wideW
      rw [e1.2, e2]
      exact Nat.mul_le_mul_right _ ((zv_le .f32).2 (by rw [show rung .f32 1501560832 = 1501560832 by decide]; omega))
    · refine (zv_le .f64).1 ?_
      unfold wideW
      rw [e1.2, e3]
      exact Nat.mul_le_mul_right _ ((zv_le .f32).2 (by rw [show rung .f32 2139095039 = 2139095039 by decide]; omega))
  · right
    refine ⟨h2, ?_⟩
    have hr := rung_of_ab .f32 hx
    rw [hi] at hr
    have he : rung .f32 x = FloatKind.f32.format.infRung := by rw [hi]; omega
    have hd : FloatKind.f32.decode x = .infinity (sgn .f32 x) := read_inf .f32 he
    unfold wideW
    rw [hd]
    cases sgn .f32 x <;> decide
theorem wide_one (x : Nat) : wide (some x) = some (wideW x) := rfl
theorem convO0 : convO .f64 .f32 (some 0) = some 0 := by decide
theorem fits0 : Fits .f64 .f32 0 := fits_size (by decide)
set_option maxHeartbeats 2000000 in
set_option maxRecDepth 100000 in
theorem implSineG_any (x : Nat) (X : O) (w : World) (hx : Hid (Fv .f32 x X)) :
    Calls Try.prog 70 #[.float .f32 x] w (RetF .f32 (sinG X) w) := by
  by_cases hs : ∃ b, X = some b ∧ rung .f32 b < 1501560832
  · obtain ⟨b, rfl, hs⟩ := hs
    obtain rfl := fv_wordC hx
    have e : sinG (some x) = sinX (some x) := by rw [sinG_some, if_pos hs]
    rw [e]
    exact implSineS_any x w hx (by rw [show rung .f32 1501560832 = 1501560832 by decide]; exact hs)
  · have hq : ∀ y, Hid (Fv .f64 y (wide X)) → ∀ W, Calls Try.prog 105 #[.float .f64 y] W fun e W' => ∃ q, e = .returned (.float .f64 q) ∧ W = W' ∧ q < 2 ^ FloatKind.f64.format.width ∧ Fits .f64 .f32 q ∧ convO .f64 .f32 (ab .f64 q) = sinG X := fun y hy W => by
      cases X with
      | none =>
        refine (implSine_none y W hy.out.1 (.inl (by rw [hy.out.2]; rfl))).mono ?_
        rintro e w' ⟨rfl, rfl⟩
        exact ⟨_, rfl, rfl, by decide, fitsNaN, by rw [fvNaN.2]; rfl⟩
      | some b =>
        obtain rfl := fv_wordC hx
        have hs2 : ¬ rung .f32 x < 1501560832 := fun h => hs ⟨x, rfl, h⟩
        obtain ⟨hw, hc⟩ := wide_cases hx.out.2 hs2
        rw [wide_one] at hy
        obtain rfl := fv_wordC hy
        rcases hc with ⟨c1, c2, c3⟩ | ⟨c1, c2⟩
        · refine (implSine_big _ W hy.out.1 hw c2 c3).mono ?_
          rintro e w' ⟨rfl, rfl⟩
          exact ⟨_, rfl, rfl, by decide, fits0, by rw [sinG_some, if_neg hs2, if_pos c1]; decide⟩
        · refine (implSine_none _ W hy.out.1 (.inr ⟨hw, c2⟩)).mono ?_
          rintro e w' ⟨rfl, rfl⟩
          exact ⟨_, rfl, rfl, by decide, fitsNaN, by rw [sinG_some, if_neg hs2, if_neg c1, fvNaN.2]; rfl⟩
    have HQ := Lib.hid hq
    clear hq hs
    go_enter Try.func70, Try.ntmps70
    go_wp2_with (with_reducible_and_instances refine Lo.wpList_wi _ rfl _ _ _ rfl _ _ rfl (by kernel_rfl) (by kernel_rfl) (by assumption) ?_; intro rr nn hrr)
    refine (HQ.out _ hrr _).mono ?_
    rintro e w' ⟨q, rfl, rfl, k1, k2, k3⟩
    go_wp2_with fail
    refine (implNarrow_any _ _ k1 k2).mono ?_
    rintro e w' ⟨r3, q3, rfl, hv, rfl⟩
    have V3 : Hid (Fv .f32 r3 (sinG X)) := Lib.hid (by rw [k3] at hv; exact hv)
    clear hv
    go_wp2
    go_ret
    exact ⟨r3, _, rfl, V3.out, rfl⟩
set_option maxHeartbeats 2000000 in
set_option maxRecDepth 100000 in
theorem specSineG0_any (x : Nat) (X : O) (w : World) (hx : Hid (Fv .f32 x X)) :
    Calls Try.prog 103 #[.float .f32 x] w (RetF .f32 (sinG X) w) := by
  by_cases hs : ∃ b, X = some b ∧ rung .f32 b < 1501560832
  · obtain ⟨b, rfl, hs⟩ := hs
    obtain rfl := fv_wordC hx
    have e : sinG (some x) = sinX (some x) := by rw [sinG_some, if_pos hs]
    rw [e]
    exact specSineS_any x w hx (by rw [show rung .f32 1501560832 = 1501560832 by decide]; exact hs)
  · have hq : ∀ y, Hid (Fv .f64 y (wide X)) → ∀ W, Calls Try.prog 113 #[.float .f64 y] W fun e W' => ∃ q, e = .returned (.float .f64 q) ∧ (∃ m, W.drewN m = W') ∧ q < 2 ^ FloatKind.f64.format.width ∧ Fits .f64 .f32 q ∧ convO .f64 .f32 (ab .f64 q) = sinG X := fun y hy W => by
      cases X with
      | none =>
        refine (specSine_none y none W hy rfl).mono ?_
        rintro e w' ⟨rfl, hw⟩
        exact ⟨_, rfl, hw, by decide, fitsNaN, by rw [fvNaN.2]; rfl⟩
      | some b =>
        obtain rfl := fv_wordC hx
        have hs2 : ¬ rung .f32 x < 1501560832 := fun h => hs ⟨x, rfl, h⟩
        obtain ⟨hw, hc⟩ := wide_cases hx.out.2 hs2
        rw [wide_one] at hy
        obtain rfl := fv_wordC hy
        rcases hc with ⟨c1, c2, c3⟩ | ⟨c1, c2⟩
        · refine (specSine_big _ W hy.out.1 hw c2 c3).mono ?_
          rintro e w' ⟨rfl, hw⟩
          exact ⟨_, rfl, hw, by decide, fits0, by rw [sinG_some, if_neg hs2, if_pos c1]; decide⟩
        · refine (specSine_none _ _ W hy (by have := sub_self_any .f64 (wideW x); rw [hw] at this; rw [this, if_neg (by rw [c2]; exact Nat.lt_irrefl _)])).mono ?_
          rintro e w' ⟨rfl, hw⟩
          exact ⟨_, rfl, hw, by decide, fitsNaN, by rw [sinG_some, if_neg hs2, if_neg c1, fvNaN.2]; rfl⟩
    have HQ := Lib.hid hq
    clear hq hs
    go_enter Try.func103, Try.ntmps103
    go_wp2_with (with_reducible_and_instances refine Lo.wpList_wi _ rfl _ _ _ rfl _ _ rfl (by kernel_rfl) (by kernel_rfl) (by assumption) ?_; intro rr nn hrr)
    refine (HQ.out _ hrr _).mono ?_
    rintro e w' ⟨q, rfl, ⟨m, rfl⟩, k1, k2, k3⟩
    go_wp2_with fail
    refine (specNarrow_any _ _ k1 k2).mono ?_
    rintro e w' ⟨r3, q3, rfl, hv, rfl⟩
    have V3 : Hid (Fv .f32 r3 (sinG X)) := Lib.hid (by rw [k3] at hv; exact hv)
    clear hv
    go_wp2
    go_ret
    exact ⟨r3, _, rfl, V3.out, rfl⟩
end Go.Proofs.Ytmdnalkfndoicaa

/- PanOf, of the model and of the program. -/
set_option linter.unusedVariables false
set_option linter.unusedSimpArgs false
namespace Go.Proofs.Ytmdnalkfndoicaa
open Fl Go.RowKit
/-- two floats and a yes or no -/
def PVVB (F0 F1 : O) (b : Bool) (w : World) (e : Ending) (w' : World) : Prop := ∃ r0 r1, e = .returned (.tuple #[.float .f32 r0, .float .f32 r1, .bool b]) ∧ Hid (Fv .f32 r0 F0) ∧ Hid (Fv .f32 r1 F1) ∧ w.Since w.heap.size w'
abbrev geW (p : Nat) : Bool := FloatKind.f32.format.order p 0 == some .gt || FloatKind.f32.format.order p 0 == some .eq
abbrev leW (p : Nat) : Bool := FloatKind.f32.format.order p 1065353216 == some .lt || FloatKind.f32.format.order p 1065353216 == some .eq
def panB (p : Nat) : Bool := geW p && leW p
def o4 : O := some 1082130432
theorem fv4 : Hid (Fv .f32 1082130432 o4) := fvc (by decide) (by decide)
def panL (P : O) : O := sinG (qu (su o1 P) o4)
def panR (P : O) : O := sinG (qu P o4)
theorem specPan_b (p : Nat) (b : Bool) (w : World) (h : panB p = b) : Calls Try.prog 67 #[.float .f32 p] w fun e w' => e = .returned (.bool b) ∧ w = w' := by
  subst h
  unfold panB
  cases h1 : geW p <;> cases h2 : leW p
  all_goals
    go_enter Try.func67, Try.ntmps67
    go_wp2
    go_ret
    exact ⟨rfl, rfl⟩
theorem allowPan_b (p : Nat) (b : Bool) (w : World) (h : panB p = b) : Calls Try.prog 69 #[.agg #[.float .f32 0, .float .f32 1065353216], .float .f32 p] w fun e w' => e = .returned (.bool b) ∧ w.Since w.heap.size w' := by
  subst h
  unfold panB
  cases h1 : geW p <;> cases h2 : leW p
  all_goals
    go_enter Try.func69, Try.ntmps69
    go_wp2
    go_ret
    exact ⟨rfl, by (repeat (first | (with_reducible refine Fl.sinDrew ?_) | (with_reducible refine World.Since.drew ?_) | (with_reducible refine Fl.sinSet ?_ ?_; rotate_left) | (with_reducible refine Fl.sinAlloc ?_ ?_; rotate_left) | with_reducible exact World.Since.refl _ _ | with_reducible assumption | (with_reducible refine Fl.sinStep (by with_reducible assumption) ?_))); all_goals (first | omega | (simp; done) | (simp; omega) | (simp [go_sem]; done) | (simp [go_sem]; omega))⟩
set_option maxHeartbeats 2000000 in
set_option maxRecDepth 100000 in
theorem specGains_any (p : Nat) (P : O) (w : World) (hp : Hid (Fv .f32 p P)) :
    Calls Try.prog 68 #[.float .f32 p] w fun e w' => ∃ r0 r1 m, e = .returned (.tuple #[.float .f32 r0, .float .f32 r1]) ∧ Hid (Fv .f32 r0 (panL P)) ∧ Hid (Fv .f32 r1 (panR P)) ∧ w.drewN m = w' := by
  have k1 := fv1
  have k4 := fv4
  go_enter Try.func68, Try.ntmps68
  go_wp2_with (with_reducible_and_instances refine Lo.wpList_fo _ rfl _ _ _ _ _ rfl _ _ _ _ _ rfl rfl rfl (by assumption) (by assumption) ?_; intro rr nn hrr)
  refine (specSineG0_any _ _ _ hrr).mono ?_
  rintro e w2 ⟨r0, m0, rfl, hr0, rfl⟩
  have R0 := Lib.hid hr0; clear hr0
  go_wp2_with (with_reducible_and_instances refine Lo.wpList_fo _ rfl _ _ _ _ _ rfl _ _ _ _ _ rfl rfl rfl (by assumption) (by assumption) ?_; intro rr nn hrr)
  refine (specSineG0_any _ _ _ hrr).mono ?_
  rintro e w2 ⟨r1, m1, rfl, hr1, rfl⟩
  have R1 := Lib.hid hr1; clear hr1
  go_wp2
  go_ret2
  exact ⟨_, _, _, rfl, R0, R1, rfl⟩
theorem specPan_ok (p : Nat) (P : O) (w : World) (hp : Hid (Fv .f32 p P)) (h : panB p = true) : Calls Try.prog 32 #[.float .f32 p] w (PVVB (panL P) (panR P) true w) := by
  unfold PVVB
  go_enter Try.func32, Try.ntmps32
  go_wp2_with (first | (go_at_call 67; refine (specPan_b p true _ h).mono ?_; rintro e w2 ⟨rfl, rfl⟩) | (go_at_call 68; refine (specGains_any p P _ hp).mono ?_; rintro e w2 ⟨r0, r1, m, rfl, hr0, hr1, rfl⟩))
  go_ret3
  exact ⟨_, _, rfl, hr0, hr1, by (repeat (first | (with_reducible refine Fl.sinDrew ?_) | (with_reducible refine World.Since.drew ?_) | (with_reducible refine Fl.sinSet ?_ ?_; rotate_left) | (with_reducible refine Fl.sinAlloc ?_ ?_; rotate_left) | with_reducible exact World.Since.refl _ _ | with_reducible assumption | (with_reducible refine Fl.sinStep (by with_reducible assumption) ?_))); all_goals (first | omega | (simp; done) | (simp; omega) | (simp [go_sem]; done) | (simp [go_sem]; omega))⟩
theorem specPan_no (p : Nat) (w : World) (h : panB p = false) : Calls Try.prog 32 #[.float .f32 p] w (PVVB (some 0) (some 0) false w) := by
  unfold PVVB
  go_enter Try.func32, Try.ntmps32
  go_wp2_with (first | (go_at_call 67; refine (specPan_b p false _ h).mono ?_; rintro e w2 ⟨rfl, rfl⟩))
  go_ret3
  exact ⟨_, _, rfl, fv0, fv0, by (repeat (first | (with_reducible refine Fl.sinDrew ?_) | (with_reducible refine World.Since.drew ?_) | (with_reducible refine Fl.sinSet ?_ ?_; rotate_left) | (with_reducible refine Fl.sinAlloc ?_ ?_; rotate_left) | with_reducible exact World.Since.refl _ _ | with_reducible assumption | (with_reducible refine Fl.sinStep (by with_reducible assumption) ?_))); all_goals (first | omega | (simp; done) | (simp; omega) | (simp [go_sem]; done) | (simp [go_sem]; omega))⟩
set_option maxHeartbeats 2000000 in
set_option maxRecDepth 100000 in
theorem implPan_ok (p : Nat) (P : O) (w : World) (hp : Hid (Fv .f32 p P)) (h : panB p = true) : Calls Try.prog 33 #[.float .f32 p] w (PVVB (panL P) (panR P) true w) := by
  unfold PVVB
  have k1 := fv1
  have k4 := fv4
  go_enter Try.func33, Try.ntmps33
  go_wp2_with (first | (with_reducible_and_instances refine Lo.wpList_fo _ rfl _ _ _ _ _ rfl _ _ _ _ _ rfl rfl rfl (by assumption) (by assumption) ?_; intro rr nn hrr) | (go_at_call 69; refine (allowPan_b p true _ h).mono ?_; rintro e w2 ⟨rfl, hs⟩; have HS := Lib.hid hs; clear hs))
  refine (implSineG_any _ _ _ hrr).mono ?_
  rintro e w3 ⟨r0, m0, rfl, hr0, rfl⟩
  have R0 := Lib.hid hr0; clear hr0
  go_wp2_with (with_reducible_and_instances refine Lo.wpList_fo _ rfl _ _ _ _ _ rfl _ _ _ _ _ rfl rfl rfl (by assumption) (by assumption) ?_; intro rr nn hrr)
  refine (implSineG_any _ _ _ hrr).mono ?_
  rintro e w3 ⟨r1, m1, rfl, hr1, rfl⟩
  have R1 := Lib.hid hr1; clear hr1
  go_wp2
  go_ret3
  exact ⟨_, _, rfl, R0, R1, since_drewN HS.out _⟩
theorem implPan_no (p : Nat) (w : World) (h : panB p = false) : Calls Try.prog 33 #[.float .f32 p] w (PVVB (some 0) (some 0) false w) := by
  unfold PVVB
  go_enter Try.func33, Try.ntmps33
  go_wp2_with (first | (go_at_call 69; refine (allowPan_b p false _ h).mono ?_; rintro e w2 ⟨rfl, hs⟩; have HS := Lib.hid hs; clear hs))
  go_ret3
  exact ⟨_, _, rfl, fv0, fv0, HS.out⟩
end Go.Proofs.Ytmdnalkfndoicaa

/- Walks of laws whose results are lists. -/
set_option linter.unusedVariables false
set_option linter.unusedSimpArgs false
namespace Go.Proofs.Ytmdnalkfndoicaa
open Fl Go.RowKit
set_option maxHeartbeats 16000000 in
set_option maxRecDepth 100000 in
theorem lawPanOf_gen (a0 : Nat) (ro0 : O) (ro1 : O) (rb2 : Bool) (w : World)
     
    (hsp : ∀ (v : World) (_ : Unit), Calls Try.prog 32 #[.float .f32 a0] v (PVVB ro0 ro1 rb2 v))
    (him : ∀ (v : World) (_ : Unit), Calls Try.prog 33 #[.float .f32 a0] v (PVVB ro0 ro1 rb2 v)) :
    Calls Try.prog 7 #[.float .f32 a0] w fun e w' => e = .returned (.bool true) ∧ w.Since w.heap.size w' := by
  have S0 : Hid (w.Since w.heap.size w) := Lib.hid (World.Since.refl _ _)
  have HSP := Lib.hid hsp; have HIM := Lib.hid him; clear hsp him
  go_enter Try.func7, Try.ntmps7
  go_wp2_with fail
  have S : Hid (w.Since w.heap.size w) := Lib.hid (World.Since.refl _ _)
  have LV : Hid (He w.heap.size w []) := Lib.hid trivial
  go_at_call 32
  refine (HSP.out _ () ).mono ?_
  rintro e v1 ⟨w0, w1, rfl, how0, how1, hs⟩
  have LV' := Lib.hid ((LV.out).since hs); clear LV; have LV := LV'; clear LV'
  have S' := Lib.hid (since_step S.out hs); clear S; have S := S'; clear S'
  clear hs
  have Vw0 := Lib.hid how0; have Lw0 := Lib.hid how0.out.1; clear how0
  have Vw1 := Lib.hid how1; have Lw1 := Lib.hid how1.out.1; clear how1
  go_wp2_with fail
  go_at_call 33
  refine (HIM.out _ () ).mono ?_
  rintro e v2 ⟨g0, g1, rfl, hog0, hog1, hs⟩
  have LV' := Lib.hid ((LV.out).since hs); clear LV; have LV := LV'; clear LV'
  have S' := Lib.hid (since_step S.out hs); clear S; have S := S'; clear S'
  clear hs
  have Vg0 := Lib.hid hog0; have Lg0 := Lib.hid hog0.out.1; clear hog0
  have Vg1 := Lib.hid hog1; have Lg1 := Lib.hid hog1.out.1; clear hog1
  have L1 := Lg0.out; have L2 := Lw0.out
  go_wp2_with (first | (with_reducible_and_instances refine wpList_wide _ rfl _ _ _ rfl _ rfl (by kernel_rfl) (by kernel_rfl) L1 ?_; intro r3 m3 hr; have X1 := Lib.hid hr; clear hr) | (with_reducible_and_instances refine wpList_wide _ rfl _ _ _ rfl _ rfl (by kernel_rfl) (by kernel_rfl) L2 ?_; intro r4 m4 hr; have X2 := Lib.hid hr; clear hr))
  clear L1 L2
  go_at_call 22
  refine (sameFloat_any _ _ _ _ X1.out (by have := X2.out; rw [Vw0.out.out.2, ← Vg0.out.out.2] at this; exact this)).mono ?_
  rintro e w' ⟨rfl, m5, rfl⟩
  clear X1 X2
  have hs : World.Since v2.heap.size v2 (v2.drewN (m3 + m4 + m5)) := since_drewN (World.Since.refl _ _) _
  simp only [World.drewN_drewN]
  generalize hV : World.drewN v2 (m3 + m4 + m5) = v3 at hs ⊢
  clear hV
  have S' := Lib.hid (since_step S.out hs); clear S; have S := S'; clear S'
  have LV' := Lib.hid (LV.out.since hs); clear LV; have LV := LV'; clear LV'
  clear hs
  have Q1 := fun (w : World) => run_wide (P := Try.prog) 29 33 g1 (by kernel_rfl) (by kernel_rfl) w; have Q2 := fun (w : World) => run_wide (P := Try.prog) 29 33 w1 (by kernel_rfl) (by kernel_rfl) w
  go_wp2_with fail
  clear Q1 Q2
  go_at_call 22
  refine (sameFloat_any _ _ _ _ (wv_fv g1 _) (by rw [Vg1.out.out.2, ← Vw1.out.out.2]; exact wv_fv w1 _)).mono ?_
  rintro e w' ⟨rfl, m5, rfl⟩
  have hs : World.Since v3.heap.size v3 (v3.drewN (wn g1 + wn w1 + m5)) := since_drewN (World.Since.refl _ _) _
  simp only [World.drewN_drewN]
  generalize hV : World.drewN v3 (wn g1 + wn w1 + m5) = v4 at hs ⊢
  clear hV
  have S' := Lib.hid (since_step S.out hs); clear S; have S := S'; clear S'
  have LV' := Lib.hid (LV.out.since hs); clear LV; have LV := LV'; clear LV'
  clear hs
  go_wp2_with fail
  go_ret
  exact ⟨rfl, S.out⟩
end Go.Proofs.Ytmdnalkfndoicaa

/- The law of PanOf. -/
set_option linter.unusedVariables false
set_option linter.unusedSimpArgs false
namespace Go.Proofs.Ytmdnalkfndoicaa
open Fl Go.RowKit
theorem lawPanOf_any (a0 : Nat) (w : World) (ha0 : Fv .f32 a0 (ab .f32 a0)) :
    Calls Try.prog 7 #[.float .f32 a0] w fun e w' => e = .returned (.bool true) ∧ w.Since w.heap.size w' := by
  cases h : panB a0
  · exact lawPanOf_gen a0 _ _ _ w (fun v _ => specPan_no _ _ h) (fun v _ => implPan_no _ _ h)
  · exact lawPanOf_gen a0 _ _ _ w (fun v _ => specPan_ok _ _ _ (Lib.hid ha0) h) (fun v _ => implPan_ok _ _ _ (Lib.hid ha0) h)
end Go.Proofs.Ytmdnalkfndoicaa

