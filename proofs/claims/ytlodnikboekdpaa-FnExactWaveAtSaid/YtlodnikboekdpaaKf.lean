/- Joined: Va Vb Vq Vw Vx Vy Vz Wd We Wf Wg Wh Wi -/
import Derived.Test.YtlodnikboekdpaaEh
import Derived.Test.YtlodnikboekdpaaRz
import Derived.Test.YtlodnikboekdpaaLw
import Derived.Test.YtlodnikboekdpaaSr
import Derived.Test.YtlodnikboekdpaaFe
import Derived.Test.YtlodnikboekdpaaFw
import Derived.Test.YtlodnikboekdpaaLq
import Derived.Test.YtlodnikboekdpaaFj
import Derived.Test.YtlodnikboekdpaaGa
import Derived.Test.YtlodnikboekdpaaLy
/- Voices: envelopes and notes by value: valid ones, and their ends. -/
set_option linter.unusedVariables false
set_option linter.unusedSimpArgs false
namespace Go.Proofs.Ytlodnikboekdpaa
open Fl Go.RowKit
/-- words of an envelope, of a note, of an oscillator -/
structure EnvN where
  a : Int
  d : Int
  s : Nat
  r : Int
structure NotN where
  st : Int
  h : Int
  p : Int
  g : Nat
structure OscN where
  k : Int
  st : Nat
  ph : Nat
def EnvN.val (e : EnvN) : Value := .agg #[.int .i64 e.a, .int .i64 e.d, .float .f32 e.s, .int .i64 e.r]
def NotN.val (e : NotN) : Value := .agg #[.int .i64 e.st, .int .i64 e.h, .int .i64 e.p, .float .f32 e.g]
def OscN.val (e : OscN) : Value := .agg #[.int .i64 e.k, .float .f32 e.st, .float .f32 e.ph]
set_option maxRecDepth 100000 in
theorem toEnvelope_any (d : EnvN) (w : World) :
    Calls Try.prog 30 #[d.val] w fun e w' => e = .returned d.val ∧ w.Since w.heap.size w' := by
  obtain ⟨a, b, s, r⟩ := d
  unfold EnvN.val
  go_enter Try.func30, Try.ntmps30
  go_wp2
  exact bodyPost_ret (v := .agg #[.int .i64 a, .int .i64 b, .float .f32 s, .int .i64 r]) (by simp [results, Try.results30, go_sem]) rfl ⟨rfl, by (repeat (first | (with_reducible refine Fl.sinDrew ?_) | (with_reducible refine World.Since.drew ?_) | (with_reducible refine Fl.sinSet ?_ ?_; rotate_left) | (with_reducible refine Fl.sinAlloc ?_ ?_; rotate_left) | with_reducible exact World.Since.refl _ _ | with_reducible assumption | (with_reducible refine Fl.sinStep (by with_reducible assumption) ?_))); all_goals (first | omega | (simp; done) | (simp; omega) | (simp [go_sem]; done) | (simp [go_sem]; omega))⟩
set_option maxRecDepth 100000 in
theorem toNote_any (d : NotN) (w : World) :
    Calls Try.prog 35 #[d.val] w fun e w' => e = .returned d.val ∧ w.Since w.heap.size w' := by
  obtain ⟨a, b, s, r⟩ := d
  unfold NotN.val
  go_enter Try.func35, Try.ntmps35
  go_wp2
  exact bodyPost_ret (v := .agg #[.int .i64 a, .int .i64 b, .int .i64 s, .float .f32 r]) (by simp [results, Try.results35, go_sem]) rfl ⟨rfl, by (repeat (first | (with_reducible refine Fl.sinDrew ?_) | (with_reducible refine World.Since.drew ?_) | (with_reducible refine Fl.sinSet ?_ ?_; rotate_left) | (with_reducible refine Fl.sinAlloc ?_ ?_; rotate_left) | with_reducible exact World.Since.refl _ _ | with_reducible assumption | (with_reducible refine Fl.sinStep (by with_reducible assumption) ?_))); all_goals (first | omega | (simp; done) | (simp; omega) | (simp [go_sem]; done) | (simp [go_sem]; omega))⟩
set_option maxRecDepth 100000 in
theorem toOscillator_any (d : OscN) (w : World) :
    Calls Try.prog 16 #[d.val] w fun e w' => e = .returned d.val ∧ w.Since w.heap.size w' := by
  obtain ⟨a, b, r⟩ := d
  unfold OscN.val
  go_enter Try.func16, Try.ntmps16
  go_wp2
  exact bodyPost_ret (v := .agg #[.int .i64 a, .float .f32 b, .float .f32 r]) (by simp [results, Try.results16, go_sem]) rfl ⟨rfl, by (repeat (first | (with_reducible refine Fl.sinDrew ?_) | (with_reducible refine World.Since.drew ?_) | (with_reducible refine Fl.sinSet ?_ ?_; rotate_left) | (with_reducible refine Fl.sinAlloc ?_ ?_; rotate_left) | with_reducible exact World.Since.refl _ _ | with_reducible assumption | (with_reducible refine Fl.sinStep (by with_reducible assumption) ?_))); all_goals (first | omega | (simp; done) | (simp; omega) | (simp [go_sem]; done) | (simp [go_sem]; omega))⟩
def okEnv (a d r : Int) : Bool := inB a 0 1000 && inB d 0 1000 && inB r 0 1000
def okNote (s h p : Int) : Bool := inB s 0 1000 && inB h 0 1000 && inB p 0 127
theorem allowX_any (a b x : Int) (w : World) :
    Calls Try.prog 72 #[.agg #[.int .i64 a, .int .i64 b], .int .i64 x] w fun e w' => e = .returned (.bool (inB x a b)) ∧ w.alloc (.cells #[.int .i64 a, .int .i64 b] 98) = w' := by
  by_cases h : a ≤ x
  all_goals
    go_enter Try.func72, Try.ntmps72
    go_wp2
    go_ret
    exact ⟨ret_bool (by simp [inB]; omega), rfl⟩
def lim (a b : Int) : Obj := .cells #[.int .i64 a, .int .i64 b] 98
theorem isHeld_b (x : Int) (b : Bool) (w : World) (h : inB x 0 1000 = b) : Calls Try.prog 70 #[.int .i64 x] w fun e w' => e = .returned (.bool b) ∧ w.alloc (lim 0 1000) = w' := by
  subst h
  unfold lim
  go_enter Try.func70, Try.ntmps70
  go_wp2_with (go_at_call 72; refine (allowX_any _ _ _ _).mono ?_; rintro e w1 ⟨rfl, rfl⟩)
  go_ret
  exact ⟨rfl, rfl⟩
theorem isPitch_b (x : Int) (b : Bool) (w : World) (h : inB x 0 127 = b) : Calls Try.prog 67 #[.int .i64 x] w fun e w' => e = .returned (.bool b) ∧ w.alloc (lim 0 127) = w' := by
  subst h
  unfold lim
  go_enter Try.func67, Try.ntmps67
  go_wp2_with (go_at_call 72; refine (allowX_any _ _ _ _).mono ?_; rintro e w1 ⟨rfl, rfl⟩)
  go_ret
  exact ⟨rfl, rfl⟩
theorem isCount_b (x : Int) (b : Bool) (w : World) (h : inB x 0 256 = b) : Calls Try.prog 63 #[.int .i64 x] w fun e w' => e = .returned (.bool b) ∧ w.alloc (lim 0 256) = w' := by
  subst h
  unfold lim
  go_enter Try.func63, Try.ntmps63
  go_wp2_with (go_at_call 72; refine (allowX_any _ _ _ _).mono ?_; rintro e w1 ⟨rfl, rfl⟩)
  go_ret
  exact ⟨rfl, rfl⟩
set_option maxHeartbeats 2000000 in
theorem implEnv_b (e : EnvN) (b : Bool) (w : World) (h : okEnv e.a e.d e.r = b) : Calls Try.prog 31 #[e.val] w (PB b w) := by
  subst h
  obtain ⟨a, d, s, r⟩ := e
  simp only [EnvN.val, okEnv]
  cases h1 : inB a 0 1000 <;> cases h2 : inB d 0 1000 <;> cases h3 : inB r 0 1000
  all_goals
    go_enter Try.func31, Try.ntmps31
    go_wp2_with (first | (go_at_call 70; with_reducible refine (isHeld_b a _ _ h1).mono ?_; rintro e w1 ⟨rfl, rfl⟩) | (go_at_call 70; with_reducible refine (isHeld_b d _ _ h2).mono ?_; rintro e w1 ⟨rfl, rfl⟩) | (go_at_call 70; with_reducible refine (isHeld_b r _ _ h3).mono ?_; rintro e w1 ⟨rfl, rfl⟩))
    go_ret
    exact ⟨rfl, by (repeat (first | (with_reducible refine Fl.sinDrew ?_) | (with_reducible refine World.Since.drew ?_) | (with_reducible refine Fl.sinSet ?_ ?_; rotate_left) | (with_reducible refine Fl.sinAlloc ?_ ?_; rotate_left) | with_reducible exact World.Since.refl _ _ | with_reducible assumption | (with_reducible refine Fl.sinStep (by with_reducible assumption) ?_))); all_goals (first | omega | (simp; done) | (simp; omega) | (simp [go_sem]; done) | (simp [go_sem]; omega))⟩
set_option maxHeartbeats 2000000 in
theorem implNote_b (e : NotN) (b : Bool) (w : World) (h : okNote e.st e.h e.p = b) : Calls Try.prog 76 #[e.val] w (PB b w) := by
  subst h
  obtain ⟨a, d, r, s⟩ := e
  simp only [NotN.val, okNote]
  cases h1 : inB a 0 1000 <;> cases h2 : inB d 0 1000 <;> cases h3 : inB r 0 127
  all_goals
    go_enter Try.func76, Try.ntmps76
    go_wp2_with (first | (go_at_call 70; with_reducible refine (isHeld_b a _ _ h1).mono ?_; rintro e w1 ⟨rfl, rfl⟩) | (go_at_call 70; with_reducible refine (isHeld_b d _ _ h2).mono ?_; rintro e w1 ⟨rfl, rfl⟩) | (go_at_call 67; with_reducible refine (isPitch_b r _ _ h3).mono ?_; rintro e w1 ⟨rfl, rfl⟩))
    go_ret
    exact ⟨rfl, by (repeat (first | (with_reducible refine Fl.sinDrew ?_) | (with_reducible refine World.Since.drew ?_) | (with_reducible refine Fl.sinSet ?_ ?_; rotate_left) | (with_reducible refine Fl.sinAlloc ?_ ?_; rotate_left) | with_reducible exact World.Since.refl _ _ | with_reducible assumption | (with_reducible refine Fl.sinStep (by with_reducible assumption) ?_))); all_goals (first | omega | (simp; done) | (simp; omega) | (simp [go_sem]; done) | (simp [go_sem]; omega))⟩
/-- an envelope, a note, an oscillator in a box -/
structure EnvAt (w : World) (g : Nat) (e : EnvN) : Prop where
  lt : g < w.heap.size
  a : w.cell? ⟨g, 0, none⟩ = some (.int .i64 e.a)
  d : w.cell? ⟨g, 1, none⟩ = some (.int .i64 e.d)
  s : w.cell? ⟨g, 2, none⟩ = some (.float .f32 e.s)
  r : w.cell? ⟨g, 3, none⟩ = some (.int .i64 e.r)
structure NotAt (w : World) (g : Nat) (e : NotN) : Prop where
  lt : g < w.heap.size
  st : w.cell? ⟨g, 0, none⟩ = some (.int .i64 e.st)
  h : w.cell? ⟨g, 1, none⟩ = some (.int .i64 e.h)
  p : w.cell? ⟨g, 2, none⟩ = some (.int .i64 e.p)
  g : w.cell? ⟨g, 3, none⟩ = some (.float .f32 e.g)
theorem specEnv_b (g : Nat) (e : EnvN) (b : Bool) (w : World) (hA : EnvAt w g e) (h : okEnv e.a e.d e.r = b) :
    Calls Try.prog 69 #[.pointer (some ⟨g, 0, none⟩)] w fun e w' => e = .returned (.bool b) ∧ w = w' := by
  subst h
  obtain ⟨a, d, s, r⟩ := e
  obtain ⟨_, c0, c1, c2, c3⟩ := hA
  simp only [okEnv] at *
  cases h1 : inB a 0 1000 <;> cases h2 : inB d 0 1000 <;> cases h3 : inB r 0 1000
  all_goals
    go_enter Try.func69, Try.ntmps69
    go_wp2_with (first | (go_at_call 65; with_reducible refine (specHold_b a 0 1000 _ _ h1).mono ?_; rintro e w1 ⟨rfl, rfl⟩) | (go_at_call 65; with_reducible refine (specHold_b d 0 1000 _ _ h2).mono ?_; rintro e w1 ⟨rfl, rfl⟩) | (go_at_call 65; with_reducible refine (specHold_b r 0 1000 _ _ h3).mono ?_; rintro e w1 ⟨rfl, rfl⟩))
    go_ret
    exact ⟨rfl, rfl⟩
theorem specNote_b (g : Nat) (e : NotN) (b : Bool) (w : World) (hA : NotAt w g e) (h : okNote e.st e.h e.p = b) :
    Calls Try.prog 74 #[.pointer (some ⟨g, 0, none⟩)] w fun e w' => e = .returned (.bool b) ∧ w = w' := by
  subst h
  obtain ⟨a, d, r, s⟩ := e
  obtain ⟨_, c0, c1, c2, c3⟩ := hA
  simp only [okNote] at *
  cases h1 : inB a 0 1000 <;> cases h2 : inB d 0 1000 <;> cases h3 : inB r 0 127
  all_goals
    go_enter Try.func74, Try.ntmps74
    go_wp2_with (first | (go_at_call 65; with_reducible refine (specHold_b a 0 1000 _ _ h1).mono ?_; rintro e w1 ⟨rfl, rfl⟩) | (go_at_call 65; with_reducible refine (specHold_b d 0 1000 _ _ h2).mono ?_; rintro e w1 ⟨rfl, rfl⟩) | (go_at_call 65; with_reducible refine (specHold_b r 0 127 _ _ h3).mono ?_; rintro e w1 ⟨rfl, rfl⟩))
    go_ret
    exact ⟨rfl, rfl⟩
set_option maxHeartbeats 2000000 in
theorem specValidEnv_b (e : EnvN) (b : Bool) (w : World) (h : okEnv e.a e.d e.r = b) : Calls Try.prog 29 #[e.val] w (PB b w) := by
  obtain ⟨a, d, s, r⟩ := e
  simp only [EnvN.val]
  have hA : EnvAt (w.alloc (.cells #[.int .i64 a, .int .i64 d, .float .f32 s, .int .i64 r] 46)) w.heap.size ⟨a, d, s, r⟩ := ⟨by simp, by simp [go_sem], by simp [go_sem], by simp [go_sem], by simp [go_sem]⟩
  have HA := Lib.hid hA; clear hA
  go_enter Try.func29, Try.ntmps29
  go_wp2_with (go_at_call 69; refine (specEnv_b _ ⟨a, d, s, r⟩ _ _ HA.out h).mono ?_; rintro e w1 ⟨rfl, rfl⟩)
  go_ret
  exact ⟨rfl, by (repeat (first | (with_reducible refine Fl.sinDrew ?_) | (with_reducible refine World.Since.drew ?_) | (with_reducible refine Fl.sinSet ?_ ?_; rotate_left) | (with_reducible refine Fl.sinAlloc ?_ ?_; rotate_left) | with_reducible exact World.Since.refl _ _ | with_reducible assumption | (with_reducible refine Fl.sinStep (by with_reducible assumption) ?_))); all_goals (first | omega | (simp; done) | (simp; omega) | (simp [go_sem]; done) | (simp [go_sem]; omega))⟩
theorem EnvAt.since {w w' : World} {g B : Nat} {e : EnvN} (h : EnvAt w g e) (s : w.Since B w') (hg : g < B) : EnvAt w' g e :=
  ⟨Nat.lt_of_lt_of_le h.lt s.size, (s.cell (a := ⟨g, 0, none⟩) hg).trans h.a, (s.cell (a := ⟨g, 1, none⟩) hg).trans h.d, (s.cell (a := ⟨g, 2, none⟩) hg).trans h.s, (s.cell (a := ⟨g, 3, none⟩) hg).trans h.r⟩
theorem NotAt.since {w w' : World} {g B : Nat} {e : NotN} (h : NotAt w g e) (s : w.Since B w') (hg : g < B) : NotAt w' g e :=
  ⟨Nat.lt_of_lt_of_le h.lt s.size, (s.cell (a := ⟨g, 0, none⟩) hg).trans h.st, (s.cell (a := ⟨g, 1, none⟩) hg).trans h.h, (s.cell (a := ⟨g, 2, none⟩) hg).trans h.p, (s.cell (a := ⟨g, 3, none⟩) hg).trans h.g⟩
def envB (e : EnvN) : Obj := .cells #[.int .i64 e.a, .int .i64 e.d, .float .f32 e.s, .int .i64 e.r] 46
def notB (e : NotN) : Obj := .cells #[.int .i64 e.st, .int .i64 e.h, .int .i64 e.p, .float .f32 e.g] 55
theorem EnvAt.new (w : World) (e : EnvN) : EnvAt (w.alloc (envB e)) w.heap.size e := by unfold envB; exact ⟨by simp, by simp [go_sem], by simp [go_sem], by simp [go_sem], by simp [go_sem]⟩
theorem NotAt.new (w : World) (e : NotN) : NotAt (w.alloc (notB e)) w.heap.size e := by unfold notB; exact ⟨by simp, by simp [go_sem], by simp [go_sem], by simp [go_sem], by simp [go_sem]⟩
theorem specEnd_any (g h : Nat) (e : EnvN) (n : NotN) (w : World) (hA : EnvAt w g e) (hN : NotAt w h n) (h1 : okEnv e.a e.d e.r = true) (h2 : okNote n.st n.h n.p = true) :
    Calls Try.prog 75 #[.pointer (some ⟨g, 0, none⟩), .pointer (some ⟨h, 0, none⟩)] w fun e' w' => e' = .returned (.int .i64 (n.st + n.h + e.r)) ∧ ∃ m, w.drewN m = w' := by
  simp only [okEnv, okNote, inB, Bool.and_eq_true, decide_eq_true_eq] at h1 h2
  obtain ⟨a, d, s, r⟩ := e
  obtain ⟨st, hh, p, gg⟩ := n
  obtain ⟨_, c0, c1, c2, c3⟩ := hA
  obtain ⟨_, d0, d1, d2, d3⟩ := hN
  simp only at *
  go_enter Try.func75, Try.ntmps75
  go_wp2_with fail
  refine Lo.wp_loose_all [] (by kernel_rfl) (by kernel_rfl) ?_
  repeat (first
    | (refine Lo.wpL_move rfl _ (.inl rfl) (by decide) ?_; simp only [Act.put, List.setIfInBounds_toArray, List.set_cons_succ, List.set_cons_zero])
    | (refine Lo.wpL_move rfl _ (.inr rfl) (by decide) ?_; simp only [Act.put, List.setIfInBounds_toArray, List.set_cons_succ, List.set_cons_zero])
    | (refine Lo.wpL_fop rfl _ _ _ _ rfl rfl (by decide) _ _ _ _ _ rfl rfl (by assumption) (by assumption) ?_; intro rr hrr; simp only [Act.put, List.setIfInBounds_toArray, List.set_cons_succ, List.set_cons_zero])
    | (refine Lo.wpL_wide rfl _ _ _ rfl (by decide) _ _ rfl (by kernel_rfl) (by kernel_rfl) (by assumption) ?_; intro rr hrr; simp only [Act.put, List.setIfInBounds_toArray, List.set_cons_succ, List.set_cons_zero])
    | (refine Lo.wpL_quiet rfl (by decide) (fun K hK => ?_); go_big_quiet_op; (refine hK _ ?_; clear hK K)))
  refine Lo.wpL_nil ?_
  refine Lo.after_nil ?_; intro nq
  go_wp2
  go_ret
  exact ⟨rfl, _, rfl⟩
theorem implEnd_any (e : EnvN) (n : NotN) (w : World) (h1 : okEnv e.a e.d e.r = true) (h2 : okNote n.st n.h n.p = true) :
    Calls Try.prog 77 #[e.val, n.val] w fun e' w' => e' = .returned (.int .i64 (n.st + n.h + e.r)) ∧ w.Since w.heap.size w' := by
  simp only [okEnv, okNote, inB, Bool.and_eq_true, decide_eq_true_eq] at h1 h2
  obtain ⟨a, d, s, r⟩ := e
  obtain ⟨st, hh, p, gg⟩ := n
  simp only [EnvN.val, NotN.val] at *
  go_enter Try.func77, Try.ntmps77
  go_wp2
  go_ret
  exact ⟨rfl, by (repeat (first | (with_reducible refine Fl.sinDrew ?_) | (with_reducible refine World.Since.drew ?_) | (with_reducible refine Fl.sinSet ?_ ?_; rotate_left) | (with_reducible refine Fl.sinAlloc ?_ ?_; rotate_left) | with_reducible exact World.Since.refl _ _ | with_reducible assumption | (with_reducible refine Fl.sinStep (by with_reducible assumption) ?_))); all_goals (first | omega | (simp; done) | (simp; omega) | (simp [go_sem]; done) | (simp [go_sem]; omega))⟩
def endR (e : EnvN) (n : NotN) (b : Bool) : Int := if b then n.st + n.h + e.r else 0
set_option maxHeartbeats 2000000 in
theorem specEndOf_b (e : EnvN) (n : NotN) (b : Bool) (w : World) (hb : (okEnv e.a e.d e.r && okNote n.st n.h n.p) = b) : Calls Try.prog 34 #[e.val, n.val] w (PIB (endR e n b) b w) := by
  obtain ⟨W, hW⟩ : ∃ W, W = (w.alloc (envB e)).alloc (notB n) := ⟨_, rfl⟩
  have hA : EnvAt W w.heap.size e := by rw [hW]; exact (EnvAt.new w e).since ((World.Since.refl (w.heap.size + 1) _).alloc (by simp) _) (by omega)
  have hN : NotAt W (w.heap.size + 1) n := by rw [hW, show w.heap.size + 1 = (w.alloc (envB e)).heap.size by simp]; exact NotAt.new _ n
  have S0 : Hid (w.Since w.heap.size W) := Lib.hid (by rw [hW]; exact ((World.Since.refl _ _).alloc (Nat.le_refl _) _).alloc (by simp) _)
  simp only [envB, notB] at hW
  have HA := Lib.hid hA; have HN := Lib.hid hN; clear hA hN
  have h1' : ∀ b, okEnv e.a e.d e.r = b → _ := fun b h W g hA => specEnv_b g e b W hA h
  have h2' : ∀ b, okNote n.st n.h n.p = b → _ := fun b h W g hA => specNote_b g n b W hA h
  have h3' := fun h1 h2 => specEnd_any w.heap.size (w.heap.size + 1) e n W HA.out HN.out h1 h2
  cases h1 : okEnv e.a e.d e.r <;> cases h2 : okNote n.st n.h n.p
  all_goals
    rw [h1, h2] at hb
    simp only [Bool.and_true, Bool.and_false, Bool.true_and, Bool.false_and] at hb
    subst hb
    have H1 := Lib.hid (h1' _ h1 W _ HA.out); have H2 := Lib.hid (h2' _ h2 W _ HN.out)
    clear h1' h2'
  case true.true =>
    have H3 := Lib.hid (h3' h1 h2); clear h3'
    simp only [endR, if_true]
    obtain ⟨a, d, s, r⟩ := e
    obtain ⟨st, hh, p, g⟩ := n
    simp only [EnvN.val, NotN.val] at *
    go_enter Try.func34, Try.ntmps34
    go_wp2_with fail
    rw [← hW]; clear hW
    go_at_call 69
    refine H1.out.mono ?_; rintro e w1 ⟨rfl, rfl⟩
    go_wp2_with (first | (go_at_call 74; refine H2.out.mono ?_; rintro e w1 ⟨rfl, rfl⟩) | (go_at_call 75; refine H3.out.mono ?_; rintro e w1 ⟨rfl, m3, rfl⟩))
    go_ret2
    exact ⟨rfl, since_drewN S0.out _⟩
  all_goals
    clear h3'
    simp only [endR, Bool.false_eq_true, if_false]
    obtain ⟨a, d, s, r⟩ := e
    obtain ⟨st, hh, p, g⟩ := n
    simp only [EnvN.val, NotN.val] at *
    go_enter Try.func34, Try.ntmps34
    go_wp2_with fail
    rw [← hW]; clear hW
    go_at_call 69
    refine H1.out.mono ?_; rintro e w1 ⟨rfl, rfl⟩
    go_wp2_with (first | (go_at_call 74; refine H2.out.mono ?_; rintro e w1 ⟨rfl, rfl⟩))
    go_ret2
    exact ⟨rfl, S0.out⟩
set_option maxHeartbeats 2000000 in
theorem implEndOf_b (e : EnvN) (n : NotN) (b : Bool) (w : World) (hb : (okEnv e.a e.d e.r && okNote n.st n.h n.p) = b) : Calls Try.prog 36 #[e.val, n.val] w (PIB (endR e n b) b w) := by
  obtain ⟨W, hW⟩ : ∃ W, W = (w.alloc (envB e)).alloc (notB n) := ⟨_, rfl⟩
  have hA : EnvAt W w.heap.size e := by rw [hW]; exact (EnvAt.new w e).since ((World.Since.refl (w.heap.size + 1) _).alloc (by simp) _) (by omega)
  have hN : NotAt W (w.heap.size + 1) n := by rw [hW, show w.heap.size + 1 = (w.alloc (envB e)).heap.size by simp]; exact NotAt.new _ n
  have S0 : Hid (w.Since w.heap.size W) := Lib.hid (by rw [hW]; exact ((World.Since.refl _ _).alloc (Nat.le_refl _) _).alloc (by simp) _)
  have z0 : w.heap.size + 1 < W.heap.size := hN.lt
  simp only [envB, notB] at hW
  have HA := Lib.hid hA; have HN := Lib.hid hN; clear hA hN
  have h3' := fun w => implEnd_any e n w
  cases h1 : okEnv e.a e.d e.r <;> cases h2 : okNote n.st n.h n.p
  all_goals
    rw [h1, h2] at hb
    simp only [Bool.and_true, Bool.and_false, Bool.true_and, Bool.false_and] at hb
    subst hb
    have H1 := Lib.hid (fun w => implEnv_b e _ w h1); have H2 := Lib.hid (fun w => implNote_b n _ w h2)
  case true.true =>
    have H3 := Lib.hid (fun w => h3' w h1 h2); clear h3' h1 h2
    simp only [endR, if_true]
    obtain ⟨a, d, s, r⟩ := e
    obtain ⟨st, hh, p, g⟩ := n
    simp only [EnvN.val, NotN.val] at *
    go_enter Try.func36, Try.ntmps36
    go_wp2_with fail
    rw [← hW]; clear hW
    go_at_call 31
    refine (H1.out _).mono ?_; rintro e w1 ⟨rfl, hs1⟩
    obtain ⟨_, d0, d1, d2, d3⟩ := HN.out.since hs1 z0
    have z1 := hs1.size
    have HS1 := Lib.hid hs1; clear hs1
    simp only at d0 d1 d2 d3
    go_wp2_with fail
    go_at_call 76
    refine (H2.out _).mono ?_; rintro e w2 ⟨rfl, hs2⟩
    have HS2 := Lib.hid (since_step HS1.out hs2); clear hs2 d0 d1 d2 d3
    obtain ⟨_, d0, d1, d2, d3⟩ := HN.out.since HS2.out z0
    obtain ⟨_, c0, c1, c2, c3⟩ := HA.out.since HS2.out (by omega)
    simp only at d0 d1 d2 d3 c0 c1 c2 c3
    go_wp2_with fail
    go_at_call 77
    refine (H3.out _).mono ?_; rintro e w3 ⟨rfl, hs3⟩
    have HS3 := Lib.hid (since_step HS2.out hs3); clear hs3
    go_wp2
    go_ret2
    exact ⟨rfl, S0.out.trans (since_mono HS3.out (by omega))⟩
  all_goals
    clear h3'
    simp only [endR, Bool.false_eq_true, if_false]
    obtain ⟨a, d, s, r⟩ := e
    obtain ⟨st, hh, p, g⟩ := n
    simp only [EnvN.val, NotN.val] at *
    go_enter Try.func36, Try.ntmps36
    go_wp2_with fail
    rw [← hW]; clear hW
    go_at_call 31
    refine (H1.out _).mono ?_; rintro e w1 ⟨rfl, hs1⟩
    obtain ⟨_, d0, d1, d2, d3⟩ := HN.out.since hs1 z0
    have z1 := hs1.size
    have HS1 := Lib.hid hs1; clear hs1
    simp only at d0 d1 d2 d3
    go_wp2_with (first | (go_at_call 76; refine (H2.out _).mono ?_; rintro e w2 ⟨rfl, hs2⟩; have HS2 := Lib.hid (since_step HS1.out hs2); clear hs2))
    go_ret2
    first | exact ⟨rfl, S0.out.trans (since_mono HS2.out (by omega))⟩ | exact ⟨rfl, S0.out.trans (since_mono HS1.out (by omega))⟩
end Go.Proofs.Ytlodnikboekdpaa

/- Voices: levels of envelopes. -/
set_option linter.unusedVariables false
set_option linter.unusedSimpArgs false
namespace Go.Proofs.Ytlodnikboekdpaa
open Fl Go.RowKit
abbrev o1 : O := some 1065353216
def heldO (a d : Int) (S : O) (n : Int) : O := if n < a then qu (some (fI n)) (some (fI a)) else if n - a < d then su o1 (mu (qu (some (fI (n - a))) (some (fI d))) (su o1 S)) else S
def lvlO (a d : Int) (S : O) (r held n : Int) : O := if n < held then heldO a d S n else if n - held < r then mu (heldO a d S held) (su o1 (qu (some (fI (n - held))) (some (fI r)))) else some 0
def inR (x lo hi : Int) : Prop := lo ≤ x ∧ x ≤ hi
set_option maxHeartbeats 2000000 in
set_option maxRecDepth 100000 in
theorem specHeld_any (g : Nat) (e : EnvN) (S : O) (n : Int) (w : World) (hA : EnvAt w g e) (hS : Hid (Fv .f32 e.s S)) (ha : inR e.a 0 1000) (hd : inR e.d 0 1000) (hn : inR n 0 4000) :
    Calls Try.prog 106 #[.pointer (some ⟨g, 0, none⟩), .int .i64 n] w fun e' w' => ∃ r m, e' = .returned (.float .f32 r) ∧ Hid (Fv .f32 r (heldO e.a e.d S n)) ∧ w.drewN m = w' := by
  obtain ⟨a, d, s, r⟩ := e
  obtain ⟨_, c0, c1, c2, c3⟩ := hA
  simp only [inR] at *
  have k1 := fv1
  unfold heldO
  by_cases h1 : n < a
  · rw [if_pos h1]
    have q1 := fI_fv n
    have q2 := fI_fv a
    go_enter Try.func106, Try.ntmps106
    go_wp2_with (with_reducible_and_instances refine Lo.wpList_fo _ rfl _ _ _ _ _ rfl _ _ _ _ _ rfl rfl rfl (by assumption) (by assumption) ?_; intro rr nn hrr)
    go_ret
    exact ⟨_, _, rfl, hrr, rfl⟩
  · rw [if_neg h1]
    by_cases h2 : n - a < d
    · rw [if_pos h2]
      have q1 := fI_fv (n - a)
      have q2 := fI_fv d
      go_enter Try.func106, Try.ntmps106
      go_wp2_with fail
      refine Lo.wp_loose_all [39, 44, 45, 46, 4] (by kernel_rfl) (by kernel_rfl) ?_
      repeat (first
        | (refine Lo.wpL_move rfl _ (.inl rfl) (by decide) ?_; simp only [Act.put, List.setIfInBounds_toArray, List.set_cons_succ, List.set_cons_zero])
        | (refine Lo.wpL_move rfl _ (.inr rfl) (by decide) ?_; simp only [Act.put, List.setIfInBounds_toArray, List.set_cons_succ, List.set_cons_zero])
        | (refine Lo.wpL_fop rfl _ _ _ _ rfl rfl (by decide) _ _ _ _ _ rfl rfl (by assumption) (by assumption) ?_; intro rr hrr; simp only [Act.put, List.setIfInBounds_toArray, List.set_cons_succ, List.set_cons_zero])
        | (refine Lo.wpL_wide rfl _ _ _ rfl (by decide) _ _ rfl (by kernel_rfl) (by kernel_rfl) (by assumption) ?_; intro rr hrr; simp only [Act.put, List.setIfInBounds_toArray, List.set_cons_succ, List.set_cons_zero])
        | (refine Lo.wpL_quiet rfl (by decide) (fun K hK => ?_); go_big_quiet_op; (refine hK _ ?_; clear hK K)))
      refine Lo.wpL_nil ?_
      refine Lo.after_fl rfl (by assumption) ?_; intro q39 h39; simp only [Act.put, List.setIfInBounds_toArray, List.set_cons_succ, List.set_cons_zero]
      refine Lo.after_fl rfl (by assumption) ?_; intro q44 h44; simp only [Act.put, List.setIfInBounds_toArray, List.set_cons_succ, List.set_cons_zero]
      refine Lo.after_fl rfl (by assumption) ?_; intro q45 h45; simp only [Act.put, List.setIfInBounds_toArray, List.set_cons_succ, List.set_cons_zero]
      refine Lo.after_fl rfl (by assumption) ?_; intro q46 h46; simp only [Act.put, List.setIfInBounds_toArray, List.set_cons_succ, List.set_cons_zero]
      refine Lo.after_fl rfl (by assumption) ?_; intro q4 h4; simp only [Act.put, List.setIfInBounds_toArray, List.set_cons_succ, List.set_cons_zero]
      refine Lo.after_nil ?_; intro nq
      go_wp2
      go_ret
      exact ⟨_, _, rfl, h4, rfl⟩
    · rw [if_neg h2]
      go_enter Try.func106, Try.ntmps106
      go_wp2
      go_ret
      exact ⟨_, rfl, hS, 0, rfl⟩
theorem qu_ex (p q : Int) : ∃ r, Fv .f32 r (qu (some (fI p)) (some (fI q))) := Lo.fv_ex (op := .quo) rfl .f32 _ _ _ _ (fI_fv p).out (fI_fv q).out
theorem share_any (p q : Int) (w : World) : Calls Try.prog 108 #[.int .i64 p, .int .i64 q] w fun e w' => ∃ r m, e = .returned (.float .f32 r) ∧ Hid (Fv .f32 r (qu (some (fI p)) (some (fI q)))) ∧ w.drewN m = w' := by
  have q1 := fI_fv p
  have q2 := fI_fv q
  go_enter Try.func108, Try.ntmps108
  go_wp2_with (with_reducible_and_instances refine Lo.wpList_fo _ rfl _ _ _ _ _ rfl _ _ _ _ _ rfl rfl rfl (by assumption) (by assumption) ?_; intro rr nn hrr)
  go_ret
  exact ⟨_, _, rfl, hrr, rfl⟩
theorem share_hc (p q : Int) (w : World) (m : Nat) : Calls Try.prog 108 #[.int .i64 p, .int .i64 q] (w.drewN m) fun e w' => ∃ r n, e = .returned (.float .f32 r) ∧ Fv .f32 r (qu (some (fI p)) (some (fI q))) ∧ w' = w.drewN n :=
  (share_any p q _).mono fun e w' ⟨r, n, h1, h2, h3⟩ => ⟨r, m + n, h1, h2.out, h3.symm.trans (by simp [World.drewN, Nat.add_assoc])⟩
set_option maxHeartbeats 2000000 in
set_option maxRecDepth 100000 in
theorem implHeld_any (e : EnvN) (S : O) (n : Int) (w : World) (hS : Hid (Fv .f32 e.s S)) (ha : inR e.a 0 1000) (hd : inR e.d 0 1000) (hn : inR n 0 4000) :
    Calls Try.prog 107 #[e.val, .int .i64 n] w fun e' w' => ∃ r m, e' = .returned (.float .f32 r) ∧ Hid (Fv .f32 r (heldO e.a e.d S n)) ∧ (w.alloc (envB e)).drewN m = w' := by
  obtain ⟨a, d, s, r⟩ := e
  simp only [inR, EnvN.val, envB] at *
  have k1 := fv1
  unfold heldO
  by_cases h1 : n < a
  · rw [if_pos h1]
    go_enter Try.func107, Try.ntmps107
    go_wp2_with (go_at_call 108; refine (share_any _ _ _).mono ?_; rintro e w1 ⟨x1, m1, rfl, hx1, rfl⟩)
    go_ret
    exact ⟨_, _, rfl, hx1, rfl⟩
  · rw [if_neg h1]
    by_cases h2 : n - a < d
    · rw [if_pos h2]
      go_enter Try.func107, Try.ntmps107
      go_wp2_with fail
      refine Lo.wp_loose_all [25, 28, 29, 30, 4] (by kernel_rfl) (by kernel_rfl) ?_
      repeat (first
        | (refine Lo.wpL_callF rfl 108 [.tmp 22, .tmp 24] [.int .i64 (n - a), .int .i64 d] _ rfl (by decide) (callsEnter 108 Try.f108 _ (by kernel_rfl) (by kernel_rfl) rfl) .f32 (qu (some (fI (n - a))) (some (fI d))) (Lo.keeps [22, 24] _ rfl (by decide)) (share_hc (n - a) d _) (qu_ex (n - a) d) ?_; intro rr hrr; simp only [Act.put, List.setIfInBounds_toArray, List.set_cons_succ, List.set_cons_zero])
        | (refine Lo.wpL_move rfl _ (.inl rfl) (by decide) ?_; simp only [Act.put, List.setIfInBounds_toArray, List.set_cons_succ, List.set_cons_zero])
        | (refine Lo.wpL_move rfl _ (.inr rfl) (by decide) ?_; simp only [Act.put, List.setIfInBounds_toArray, List.set_cons_succ, List.set_cons_zero])
        | (refine Lo.wpL_fop rfl _ _ _ _ rfl rfl (by decide) _ _ _ _ _ rfl rfl (by assumption) (by assumption) ?_; intro rr hrr; simp only [Act.put, List.setIfInBounds_toArray, List.set_cons_succ, List.set_cons_zero])
        | (refine Lo.wpL_wide rfl _ _ _ rfl (by decide) _ _ rfl (by kernel_rfl) (by kernel_rfl) (by assumption) ?_; intro rr hrr; simp only [Act.put, List.setIfInBounds_toArray, List.set_cons_succ, List.set_cons_zero])
        | (refine Lo.wpL_quiet rfl (by decide) (fun K hK => ?_); go_big_quiet_op; (refine hK _ ?_; clear hK K)))
      refine Lo.wpL_nil ?_
      refine Lo.after_fl rfl (by assumption) ?_; intro q25 h25; simp only [Act.put, List.setIfInBounds_toArray, List.set_cons_succ, List.set_cons_zero]
      refine Lo.after_fl rfl (by assumption) ?_; intro q28 h28; simp only [Act.put, List.setIfInBounds_toArray, List.set_cons_succ, List.set_cons_zero]
      refine Lo.after_fl rfl (by assumption) ?_; intro q29 h29; simp only [Act.put, List.setIfInBounds_toArray, List.set_cons_succ, List.set_cons_zero]
      refine Lo.after_fl rfl (by assumption) ?_; intro q30 h30; simp only [Act.put, List.setIfInBounds_toArray, List.set_cons_succ, List.set_cons_zero]
      refine Lo.after_fl rfl (by assumption) ?_; intro q4 h4; simp only [Act.put, List.setIfInBounds_toArray, List.set_cons_succ, List.set_cons_zero]
      refine Lo.after_nil ?_; intro nq
      go_wp2
      go_ret
      exact ⟨_, _, rfl, h4, rfl⟩
    · rw [if_neg h2]
      go_enter Try.func107, Try.ntmps107
      go_wp2
      go_ret
      exact ⟨_, rfl, hS, 0, rfl⟩
theorem EnvAt.drewN {w : World} {g : Nat} {e : EnvN} (h : EnvAt w g e) (m : Nat) : EnvAt (w.drewN m) g e := ⟨h.lt, h.a, h.d, h.s, h.r⟩
theorem heldO_ex {s : Nat} {S : O} (a d n : Int) (hS : Hid (Fv .f32 s S)) : ∃ r, Fv .f32 r (heldO a d S n) := by
  unfold heldO
  split
  · exact qu_ex _ _
  · split
    · obtain ⟨q1, h1⟩ := qu_ex (n - a) d
      obtain ⟨q2, h2⟩ := Lo.fv_ex (op := .sub) rfl .f32 _ _ _ _ fv1.out hS.out
      obtain ⟨q3, h3⟩ := Lo.fv_ex (op := .mul) rfl .f32 _ _ _ _ h1 h2
      exact Lo.fv_ex (op := .sub) rfl .f32 _ _ _ _ fv1.out h3
    · exact ⟨s, hS.out⟩
theorem specHeld_hc (g : Nat) (e : EnvN) (S : O) (n : Int) (w : World) (hA : EnvAt w g e) (hS : Hid (Fv .f32 e.s S)) (ha : inR e.a 0 1000) (hd : inR e.d 0 1000) (hn : inR n 0 4000) (m : Nat) :
    Calls Try.prog 106 #[.pointer (some ⟨g, 0, none⟩), .int .i64 n] (w.drewN m) fun e' w' => ∃ r n', e' = .returned (.float .f32 r) ∧ Fv .f32 r (heldO e.a e.d S n) ∧ w' = w.drewN n' :=
  (specHeld_any g e S n _ (hA.drewN m) hS ha hd hn).mono fun e w' ⟨r, n, h1, h2, h3⟩ => ⟨r, m + n, h1, h2.out, h3.symm.trans (by simp [World.drewN, Nat.add_assoc])⟩
set_option maxHeartbeats 2000000 in
set_option maxRecDepth 100000 in
theorem specLevel_any (g : Nat) (e : EnvN) (S : O) (held n : Int) (w : World) (hA : EnvAt w g e) (hS : Hid (Fv .f32 e.s S)) (ha : inR e.a 0 1000) (hd : inR e.d 0 1000) (hr : inR e.r 0 1000) (hh : inR held 0 4000) (hn : inR n 0 4000) :
    Calls Try.prog 71 #[.pointer (some ⟨g, 0, none⟩), .int .i64 held, .int .i64 n] w fun e' w' => ∃ r m, e' = .returned (.float .f32 r) ∧ Hid (Fv .f32 r (lvlO e.a e.d S e.r held n)) ∧ w.drewN m = w' := by
  have H1 := Lib.hid (specHeld_any g e S n w hA hS ha hd hn)
  have H2 := fun m => specHeld_hc g e S held w hA hS ha hd hh m
  have hx := heldO_ex e.a e.d held hS
  obtain ⟨a, d, s, r⟩ := e
  obtain ⟨_, c0, c1, c2, c3⟩ := hA
  simp only [inR] at *
  have k1 := fv1
  unfold lvlO
  by_cases h1 : n < held
  · rw [if_pos h1]
    go_enter Try.func71, Try.ntmps71
    go_wp2_with (go_at_call 106; refine H1.out.mono ?_; rintro e w1 ⟨x1, m1, rfl, hx1, rfl⟩)
    go_ret
    exact ⟨_, _, rfl, hx1, rfl⟩
  · rw [if_neg h1]
    by_cases h2 : n - held < r
    · rw [if_pos h2]
      have q1 := fI_fv (n - held)
      have q2 := fI_fv r
      go_enter Try.func71, Try.ntmps71
      go_wp2_with fail
      refine Lo.wp_loose_all [25, 33, 34, 35, 6] (by kernel_rfl) (by kernel_rfl) ?_
      repeat (first
        | (refine Lo.wpL_callF rfl 106 [.tmp 23, .tmp 24] [.pointer (some ⟨g, 0, none⟩), .int .i64 held] _ rfl (by decide) (callsEnter 106 Try.f106 _ (by kernel_rfl) (by kernel_rfl) rfl) .f32 _ (Lo.keeps [23, 24] _ rfl (by decide)) H2 hx ?_; intro rr hrr; simp only [Act.put, List.setIfInBounds_toArray, List.set_cons_succ, List.set_cons_zero])
        | (refine Lo.wpL_move rfl _ (.inl rfl) (by decide) ?_; simp only [Act.put, List.setIfInBounds_toArray, List.set_cons_succ, List.set_cons_zero])
        | (refine Lo.wpL_move rfl _ (.inr rfl) (by decide) ?_; simp only [Act.put, List.setIfInBounds_toArray, List.set_cons_succ, List.set_cons_zero])
        | (refine Lo.wpL_fop rfl _ _ _ _ rfl rfl (by decide) _ _ _ _ _ rfl rfl (by assumption) (by assumption) ?_; intro rr hrr; simp only [Act.put, List.setIfInBounds_toArray, List.set_cons_succ, List.set_cons_zero])
        | (refine Lo.wpL_wide rfl _ _ _ rfl (by decide) _ _ rfl (by kernel_rfl) (by kernel_rfl) (by assumption) ?_; intro rr hrr; simp only [Act.put, List.setIfInBounds_toArray, List.set_cons_succ, List.set_cons_zero])
        | (refine Lo.wpL_quiet rfl (by decide) (fun K hK => ?_); go_big_quiet_op; (refine hK _ ?_; clear hK K)))
      refine Lo.wpL_nil ?_
      refine Lo.after_fl rfl (by assumption) ?_; intro q25 h25; simp only [Act.put, List.setIfInBounds_toArray, List.set_cons_succ, List.set_cons_zero]
      refine Lo.after_fl rfl (by assumption) ?_; intro q33 h33; simp only [Act.put, List.setIfInBounds_toArray, List.set_cons_succ, List.set_cons_zero]
      refine Lo.after_fl rfl (by assumption) ?_; intro q34 h34; simp only [Act.put, List.setIfInBounds_toArray, List.set_cons_succ, List.set_cons_zero]
      refine Lo.after_fl rfl (by assumption) ?_; intro q35 h35; simp only [Act.put, List.setIfInBounds_toArray, List.set_cons_succ, List.set_cons_zero]
      refine Lo.after_fl rfl (by assumption) ?_; intro q6 h6; simp only [Act.put, List.setIfInBounds_toArray, List.set_cons_succ, List.set_cons_zero]
      refine Lo.after_nil ?_; intro nq
      go_wp2
      go_ret
      exact ⟨_, _, rfl, h6, rfl⟩
    · rw [if_neg h2]
      go_enter Try.func71, Try.ntmps71
      go_wp2
      go_ret
      exact ⟨_, rfl, fv0, 0, rfl⟩
theorem implHeld_since (e : EnvN) (S : O) (n : Int) (w : World) (hS : Hid (Fv .f32 e.s S)) (ha : inR e.a 0 1000) (hd : inR e.d 0 1000) (hn : inR n 0 4000) :
    Calls Try.prog 107 #[e.val, .int .i64 n] w fun e' w' => ∃ r, e' = .returned (.float .f32 r) ∧ Hid (Fv .f32 r (heldO e.a e.d S n)) ∧ w.Since w.heap.size w' :=
  (implHeld_any e S n w hS ha hd hn).mono fun e' w' ⟨r, m, h1, h2, h3⟩ => ⟨r, h1, h2, by subst h3; exact since_drewN ((World.Since.refl _ _).alloc (Nat.le_refl _) _) _⟩
theorem EnvAt.range {w : World} {g : Nat} {e : EnvN} (h : EnvAt w g e) : w.rangeAt g 0 [.int .i64 e.a, .int .i64 e.d, .float .f32 e.s, .int .i64 e.r] := fun j v hj => by
  rw [Nat.zero_add]
  match j, hj with
  | 0, hj => cases hj; exact h.a
  | 1, hj => cases hj; exact h.d
  | 2, hj => cases hj; exact h.s
  | 3, hj => cases hj; exact h.r
theorem EnvAt.load3 {w : World} {g : Nat} {e : EnvN} (h : EnvAt w g e) : (loadVar 2 ⟨g, 3, none⟩).run Try.prog w = .ok (.int .i64 e.r) w := by
  have h3 := h.r
  simp [loadVar, go_sem, h3]
theorem held_hc (W : World) (e : EnvN) (S : O) (n : Int) (hS : Hid (Fv .f32 e.s S)) (ha : inR e.a 0 1000) (hd : inR e.d 0 1000) (hn : inR n 0 4000) (us : List Value) (hu : Lo.VRs [e.val, .int .i64 n] us) (v : World) (hv : ∃ hs d, v = Lo.mkW W hs d) :
    Calls Try.prog 107 us.toArray v fun e' v2 => ∃ r, e' = .returned (.float .f32 r) ∧ Fv .f32 r (heldO e.a e.d S n) ∧ ∃ hs d, v2 = Lo.mkW W hs d := by
  obtain ⟨u0, _, rfl, e0, u1, _, rfl, e1, rfl⟩ := hu
  rw [Lo.VR_agg e0, Lo.VR_int e1]
  exact (implHeld_since e S n v hS ha hd hn).mono fun e' w' ⟨r, h1, h2, h3⟩ => ⟨r, h1, h2.out, Lo.mkW_mkW hv h3⟩
theorem shareG_hc (W : World) (p q : Int) (us : List Value) (hu : Lo.VRs [.int .i64 p, .int .i64 q] us) (v : World) (hv : ∃ hs d, v = Lo.mkW W hs d) :
    Calls Try.prog 108 us.toArray v fun e' v2 => ∃ r, e' = .returned (.float .f32 r) ∧ Fv .f32 r (qu (some (fI p)) (some (fI q))) ∧ ∃ hs d, v2 = Lo.mkW W hs d := by
  obtain ⟨u0, _, rfl, e0, u1, _, rfl, e1, rfl⟩ := hu
  rw [Lo.VR_int e0, Lo.VR_int e1]
  exact (share_any p q v).mono fun e' w' ⟨r, m, h1, h2, h3⟩ => ⟨r, h1, h2.out, by subst h3; exact Lo.drewG m hv⟩
set_option maxHeartbeats 2000000 in
set_option maxRecDepth 100000 in
theorem implLevel_any (e : EnvN) (S : O) (held n : Int) (w : World) (hS : Hid (Fv .f32 e.s S)) (ha : inR e.a 0 1000) (hd : inR e.d 0 1000) (hr : inR e.r 0 1000) (hh : inR held 0 4000) (hn : inR n 0 4000) :
    Calls Try.prog 73 #[e.val, .int .i64 held, .int .i64 n] w fun e' w' => ∃ r, e' = .returned (.float .f32 r) ∧ Hid (Fv .f32 r (lvlO e.a e.d S e.r held n)) ∧ w.Since w.heap.size w' := by
  have H1 := Lib.hid (fun w => implHeld_since e S n w hS ha hd hn)
  have H2 := Lib.hid (fun w => implHeld_since e S held w hS ha hd hh)
  have hx := heldO_ex e.a e.d held hS
  obtain ⟨W, hW⟩ : ∃ W, W = w.alloc (envB e) := ⟨_, rfl⟩
  have hA : EnvAt W w.heap.size e := by rw [hW]; exact EnvAt.new w e
  have S0 : Hid (w.Since w.heap.size W) := Lib.hid (by rw [hW]; exact (World.Since.refl _ _).alloc (Nat.le_refl _) _)
  have cG : ∀ hs d, EnvAt (Lo.mkW W hs d) w.heap.size e := fun hs d => hA.since (Lo.mkW_since W hs d) hA.lt
  have z0 := hA.lt
  obtain ⟨a, d, s, r⟩ := e
  simp only [envB] at hW
  have CG := Lib.hid cG; have HA := Lib.hid hA; clear cG hA
  simp only [inR, EnvN.val] at *
  have k1 := fv1
  unfold lvlO
  by_cases h1 : n < held
  · rw [if_pos h1]
    obtain ⟨_, c0, c1, c2, c3⟩ := HA.out
    go_enter Try.func73, Try.ntmps73
    go_wp2_with fail
    rw [← hW]; clear hW
    refine (H1.out _).mono ?_
    rintro e w1 ⟨x1, rfl, hx1, hs1⟩
    have HS1 := Lib.hid hs1; clear hs1
    go_wp2
    go_ret
    exact ⟨_, rfl, hx1, since_step S0.out HS1.out⟩
  · rw [if_neg h1]
    by_cases h2 : n - held < r
    · rw [if_pos h2]
      obtain ⟨_, c0, c1, c2, c3⟩ := HA.out
      go_enter Try.func73, Try.ntmps73
      go_wp2_with fail
      rw [← hW]; clear hW
      refine Lo.wp_looseG_all [23, 27, 28, 29, 6] (by kernel_rfl) (by kernel_rfl) ?_
      repeat (first
        | (refine Lo.wpL_loadRow rfl 46 (.tmp 3) rfl (by decide) w.heap.size 0 rfl [.int .i64 a, .int .i64 d, .float .f32 s, .int .i64 r] _ Try.underlying46 rfl (by kernel_rfl) (fun v ⟨hs, dd, hv⟩ => hv ▸ (CG.out hs dd).range) ?_; simp only [Act.put, List.setIfInBounds_toArray, List.set_cons_succ, List.set_cons_zero])
        | (refine Lo.wpL_load1 rfl 2 (.tmp 25) rfl (by decide) ⟨w.heap.size, 3, none⟩ rfl (.int .i64 r) (fun v ⟨hs, dd, hv⟩ => hv ▸ (CG.out hs dd).load3) ?_; simp only [Act.put, List.setIfInBounds_toArray, List.set_cons_succ, List.set_cons_zero])
        | (refine Lo.wpG_callV rfl 107 [.tmp 21, .tmp 22] [.agg #[.int .i64 a, .int .i64 d, .float .f32 s, .int .i64 r], .int .i64 held] _ rfl (by decide) (callsEnter 107 Try.f107 _ (by kernel_rfl) (by kernel_rfl) rfl) .f32 _ rfl (held_hc W ⟨a, d, s, r⟩ S held hS ha hd hh) hx ?_; intro rr hrr; simp only [Act.put, List.setIfInBounds_toArray, List.set_cons_succ, List.set_cons_zero])
        | (refine Lo.wpG_callV rfl 108 [.tmp 24, .tmp 26] [.int .i64 (n - held), .int .i64 r] _ rfl (by decide) (callsEnter 108 Try.f108 _ (by kernel_rfl) (by kernel_rfl) rfl) .f32 _ rfl (shareG_hc W (n - held) r) (qu_ex (n - held) r) ?_; intro rr hrr; simp only [Act.put, List.setIfInBounds_toArray, List.set_cons_succ, List.set_cons_zero])
        | (refine Lo.wpL_move rfl _ (.inl rfl) (by decide) ?_; simp only [Act.put, List.setIfInBounds_toArray, List.set_cons_succ, List.set_cons_zero])
        | (refine Lo.wpL_move rfl _ (.inr rfl) (by decide) ?_; simp only [Act.put, List.setIfInBounds_toArray, List.set_cons_succ, List.set_cons_zero])
        | (refine Lo.wpG_fop (fun _ m h => Lo.drewG m h) rfl _ _ _ _ rfl rfl (by decide) _ _ _ _ _ rfl rfl (by assumption) (by assumption) ?_; intro rr hrr; simp only [Act.put, List.setIfInBounds_toArray, List.set_cons_succ, List.set_cons_zero])
        | (refine Lo.wpL_quiet rfl (by decide) (fun K hK => ?_); go_big_quiet_op; first | (refine hK _ ?_; clear hK K) | (refine ⟨_, fun _ _ _ _ => rfl, hK _ ?_⟩; clear hK K)))
      refine Lo.wpL_nil ?_; intro hsG dG
      refine Lo.after_fl rfl (by assumption) ?_; intro q23 h23; simp only [Act.put, List.setIfInBounds_toArray, List.set_cons_succ, List.set_cons_zero]
      refine Lo.after_fl rfl (by assumption) ?_; intro q27 h27; simp only [Act.put, List.setIfInBounds_toArray, List.set_cons_succ, List.set_cons_zero]
      refine Lo.after_fl rfl (by assumption) ?_; intro q28 h28; simp only [Act.put, List.setIfInBounds_toArray, List.set_cons_succ, List.set_cons_zero]
      refine Lo.after_fl rfl (by assumption) ?_; intro q29 h29; simp only [Act.put, List.setIfInBounds_toArray, List.set_cons_succ, List.set_cons_zero]
      refine Lo.after_fl rfl (by assumption) ?_; intro q6 h6; simp only [Act.put, List.setIfInBounds_toArray, List.set_cons_succ, List.set_cons_zero]
      refine Lo.after_nil ?_; intro nq
      generalize hwG : Lo.mkW _ hsG dG = wG
      replace hwG := Lo.sinceG hwG
      clear hsG dG
      have HSG := Lib.hid hwG; clear hwG
      go_wp2
      go_ret
      exact ⟨_, rfl, h6, since_step S0.out HSG.out⟩
    · rw [if_neg h2]
      obtain ⟨_, c0, c1, c2, c3⟩ := HA.out
      clear hW
      go_enter Try.func73, Try.ntmps73
      go_wp2
      go_ret
      exact ⟨_, rfl, fv0, by (repeat (first | (with_reducible refine Fl.sinDrew ?_) | (with_reducible refine World.Since.drew ?_) | (with_reducible refine Fl.sinSet ?_ ?_; rotate_left) | (with_reducible refine Fl.sinAlloc ?_ ?_; rotate_left) | with_reducible exact World.Since.refl _ _ | with_reducible assumption | (with_reducible refine Fl.sinStep (by with_reducible assumption) ?_))); all_goals (first | omega | (simp; done) | (simp; omega) | (simp [go_sem]; done) | (simp [go_sem]; omega))⟩
def PVB (F : O) (b : Bool) (w : World) (e : Ending) (w' : World) : Prop := ∃ r, e = .returned (.tuple #[.float .f32 r, .bool b]) ∧ Hid (Fv .f32 r F) ∧ w.Since w.heap.size w'
def okLvl (e : EnvN) (held n : Int) : Bool := okEnv e.a e.d e.r && inB held 0 4000 && inB n 0 4000
def lvlR (e : EnvN) (held n : Int) (b : Bool) : O := if b then lvlO e.a e.d (ab .f32 e.s) e.r held n else some 0
theorem inR_of {x lo hi : Int} (h : inB x lo hi = true) : inR x lo hi := by simpa [inB, inR] using h
theorem env_in {e : EnvN} (h : okEnv e.a e.d e.r = true) : inR e.a 0 1000 ∧ inR e.d 0 1000 ∧ inR e.r 0 1000 := by
  simp only [okEnv, Bool.and_eq_true] at h
  exact ⟨inR_of h.1.1, inR_of h.1.2, inR_of h.2⟩
theorem allowB (a b x : Int) (bb : Bool) (w : World) (h : inB x a b = bb) :
    Calls Try.prog 72 #[.agg #[.int .i64 a, .int .i64 b], .int .i64 x] w fun e w' => e = .returned (.bool bb) ∧ w.alloc (.cells #[.int .i64 a, .int .i64 b] 98) = w' := by subst h; exact allowX_any a b x w
set_option maxHeartbeats 4000000 in
set_option maxRecDepth 100000 in
theorem specLevelAt_b (e : EnvN) (held n : Int) (b : Bool) (w : World) (hs : e.s < 4294967296) (hb : okLvl e held n = b) : Calls Try.prog 32 #[e.val, .int .i64 held, .int .i64 n] w (PVB (lvlR e held n b) b w) := by
  obtain ⟨W, hW⟩ : ∃ W, W = w.alloc (envB e) := ⟨_, rfl⟩
  have hA : EnvAt W w.heap.size e := by rw [hW]; exact EnvAt.new w e
  have S0 : Hid (w.Since w.heap.size W) := Lib.hid (by rw [hW]; exact (World.Since.refl _ _).alloc (Nat.le_refl _) _)
  simp only [envB] at hW
  have HA := Lib.hid hA; clear hA
  unfold okLvl at hb
  cases h1 : okEnv e.a e.d e.r <;> cases h2 : inB held 0 4000 <;> cases h3 : inB n 0 4000
  all_goals
    rw [h1, h2, h3] at hb
    simp only [Bool.and_true, Bool.and_false, Bool.true_and, Bool.false_and] at hb
    subst hb
    have H1 := Lib.hid (specEnv_b w.heap.size e _ W HA.out h1)
  case true.true.true =>
    obtain ⟨i1, i2, i3⟩ := env_in h1
    have H3 := Lib.hid (specLevel_any w.heap.size e (ab .f32 e.s) held n W HA.out (Lib.hid ⟨hs, rfl⟩) i1 i2 i3 (inR_of h2) (inR_of h3))
    simp only [lvlR, if_true]
    clear i1 i2 i3 h1
    obtain ⟨a, d, s, r⟩ := e
    simp only [EnvN.val] at *
    go_enter Try.func32, Try.ntmps32
    go_wp2_with fail
    rw [← hW]; clear hW
    go_at_call 69
    refine H1.out.mono ?_; rintro e w1 ⟨rfl, rfl⟩
    go_wp2_with (first | (go_at_call 65; with_reducible refine (specHold_b held 0 4000 _ _ h2).mono ?_; rintro e w1 ⟨rfl, rfl⟩) | (go_at_call 65; with_reducible refine (specHold_b n 0 4000 _ _ h3).mono ?_; rintro e w1 ⟨rfl, rfl⟩) | (go_at_call 71; refine H3.out.mono ?_; rintro e w1 ⟨x1, m1, rfl, hx1, rfl⟩))
    go_ret2
    exact ⟨_, rfl, hx1, since_drewN S0.out _⟩
  all_goals
    simp only [lvlR, Bool.false_eq_true, if_false]
    clear h1
    obtain ⟨a, d, s, r⟩ := e
    simp only [EnvN.val] at *
    go_enter Try.func32, Try.ntmps32
    go_wp2_with fail
    rw [← hW]; clear hW
    go_at_call 69
    refine H1.out.mono ?_; rintro e w1 ⟨rfl, rfl⟩
    go_wp2_with (first | (go_at_call 65; with_reducible refine (specHold_b held 0 4000 _ _ h2).mono ?_; rintro e w1 ⟨rfl, rfl⟩) | (go_at_call 65; with_reducible refine (specHold_b n 0 4000 _ _ h3).mono ?_; rintro e w1 ⟨rfl, rfl⟩))
    go_ret2
    exact ⟨_, rfl, fv0, S0.out⟩
set_option maxHeartbeats 4000000 in
set_option maxRecDepth 100000 in
theorem implLevelAt_b (e : EnvN) (held n : Int) (b : Bool) (w : World) (hs : e.s < 4294967296) (hb : okLvl e held n = b) : Calls Try.prog 33 #[e.val, .int .i64 held, .int .i64 n] w (PVB (lvlR e held n b) b w) := by
  obtain ⟨W, hW⟩ : ∃ W, W = (w.alloc (envB e)).alloc (lim 0 4000) := ⟨_, rfl⟩
  have hA : EnvAt W w.heap.size e := by rw [hW]; exact (EnvAt.new w e).since ((World.Since.refl (w.heap.size + 1) _).alloc (by simp) _) (by omega)
  have S0 : Hid (w.Since w.heap.size W) := Lib.hid (by rw [hW]; exact ((World.Since.refl _ _).alloc (Nat.le_refl _) _).alloc (by simp) _)
  have z0 : w.heap.size + 1 < W.heap.size := by rw [hW]; simp
  have hc0 : W.cell? ⟨w.heap.size + 1, 0, none⟩ = some (.int .i64 0) := by rw [hW]; simp [lim, go_sem]
  have hc1 : W.cell? ⟨w.heap.size + 1, 1, none⟩ = some (.int .i64 4000) := by rw [hW]; simp [lim, go_sem]
  simp only [envB, lim] at hW
  have HA := Lib.hid hA; have HC0 := Lib.hid hc0; have HC1 := Lib.hid hc1; clear hA hc0 hc1
  unfold okLvl at hb
  cases h1 : okEnv e.a e.d e.r <;> cases h2 : inB held 0 4000 <;> cases h3 : inB n 0 4000
  all_goals
    rw [h1, h2, h3] at hb
    simp only [Bool.and_true, Bool.and_false, Bool.true_and, Bool.false_and] at hb
    subst hb
    have H1 := Lib.hid (fun w => implEnv_b e _ w h1)
  case true.true.true =>
    obtain ⟨i1, i2, i3⟩ := env_in h1
    have H3 := Lib.hid (fun w => implLevel_any e (ab .f32 e.s) held n w (Lib.hid ⟨hs, rfl⟩) i1 i2 i3 (inR_of h2) (inR_of h3))
    simp only [lvlR, if_true]
    clear i1 i2 i3 h1
    obtain ⟨a, d, s, r⟩ := e
    simp only [EnvN.val] at *
    go_enter Try.func33, Try.ntmps33
    go_wp2_with fail
    rw [← hW]; clear hW
    go_at_call 31
    refine (H1.out _).mono ?_; rintro e w1 ⟨rfl, hs1⟩
    obtain ⟨_, c0, c1, c2, c3⟩ := HA.out.since hs1 (by omega)
    have d0 := (hs1.cell (a := ⟨w.heap.size + 1, 0, none⟩) z0).trans HC0.out
    have d1 := (hs1.cell (a := ⟨w.heap.size + 1, 1, none⟩) z0).trans HC1.out
    have z1 := hs1.size; have z2 : w.heap.size + 1 < w1.heap.size := (by omega); have z3 : w.heap.size < w1.heap.size := (by omega)
    have HS1 := Lib.hid hs1; clear hs1
    simp only at c0 c1 c2 c3
    go_wp2_with (first | (go_at_call 72; with_reducible refine (allowB 0 4000 held _ _ h2).mono ?_; rintro e w1 ⟨rfl, rfl⟩) | (go_at_call 72; with_reducible refine (allowB 0 4000 n _ _ h3).mono ?_; rintro e w1 ⟨rfl, rfl⟩))
    refine (H3.out _).mono ?_; rintro e w2 ⟨x1, rfl, hx1, hs2⟩
    have HS2 := Lib.hid hs2; clear hs2
    go_wp2
    go_ret2
    exact ⟨_, rfl, hx1, S0.out.trans (since_mono (since_step HS1.out (since_step (by (repeat (first | (with_reducible refine Fl.sinDrew ?_) | (with_reducible refine World.Since.drew ?_) | (with_reducible refine Fl.sinSet ?_ ?_; rotate_left) | (with_reducible refine Fl.sinAlloc ?_ ?_; rotate_left) | with_reducible exact World.Since.refl _ _ | with_reducible assumption | (with_reducible refine Fl.sinStep (by with_reducible assumption) ?_))); all_goals (first | omega | (simp; done) | (simp; omega) | (simp [go_sem]; done) | (simp [go_sem]; omega))) HS2.out)) (by omega))⟩
  all_goals
    simp only [lvlR, Bool.false_eq_true, if_false]
    clear h1
    obtain ⟨a, d, s, r⟩ := e
    simp only [EnvN.val] at *
    go_enter Try.func33, Try.ntmps33
    go_wp2_with fail
    rw [← hW]; clear hW
    go_at_call 31
    refine (H1.out _).mono ?_; rintro e w1 ⟨rfl, hs1⟩
    obtain ⟨_, c0, c1, c2, c3⟩ := HA.out.since hs1 (by omega)
    have d0 := (hs1.cell (a := ⟨w.heap.size + 1, 0, none⟩) z0).trans HC0.out
    have d1 := (hs1.cell (a := ⟨w.heap.size + 1, 1, none⟩) z0).trans HC1.out
    have z1 := hs1.size; have z2 : w.heap.size + 1 < w1.heap.size := (by omega); have z3 : w.heap.size < w1.heap.size := (by omega)
    have HS1 := Lib.hid hs1; clear hs1
    simp only at c0 c1 c2 c3
    go_wp2_with (first | (go_at_call 72; with_reducible refine (allowB 0 4000 held _ _ h2).mono ?_; rintro e w1 ⟨rfl, rfl⟩) | (go_at_call 72; with_reducible refine (allowB 0 4000 n _ _ h3).mono ?_; rintro e w1 ⟨rfl, rfl⟩))
    go_ret2
    exact ⟨_, rfl, fv0, S0.out.trans (since_mono (since_step HS1.out (by (repeat (first | (with_reducible refine Fl.sinDrew ?_) | (with_reducible refine World.Since.drew ?_) | (with_reducible refine Fl.sinSet ?_ ?_; rotate_left) | (with_reducible refine Fl.sinAlloc ?_ ?_; rotate_left) | with_reducible exact World.Since.refl _ _ | with_reducible assumption | (with_reducible refine Fl.sinStep (by with_reducible assumption) ?_))); all_goals (first | omega | (simp; done) | (simp; omega) | (simp [go_sem]; done) | (simp [go_sem]; omega)))) (by omega))⟩
end Go.Proofs.Ytlodnikboekdpaa

/- Voices: kinds of waves, oscillators that are valid. -/
set_option linter.unusedVariables false
set_option linter.unusedSimpArgs false
namespace Go.Proofs.Ytlodnikboekdpaa
open Fl Go.RowKit
def turnB (x : O) : Bool := geO x (some 0) && ltO x (some 1065353216)
theorem turnB_of {X : O} {b1 b2 b3 : Bool} (h1 : gtO X (some 0) = b1) (h2 : eqO X (some 0) = b2) (h3 : ltO X (some 1065353216) = b3) : turnB X = ((b1 || b2) && b3) := by unfold turnB geO; rw [h1, h2, h3]
theorem specTurn_b (x : Nat) (X : O) (b : Bool) (w : World) (hx : Hid (Fv .f32 x X)) (h : turnB X = b) : Calls Try.prog 59 #[.float .f32 x] w fun e w' => e = .returned (.bool b) ∧ w = w' := by
  subst h
  have g1 := gt_fv hx fv0
  have g2 := eq_fv hx fv0
  have g3 := lt_fv hx fv1
  cases e1 : gtO X (some 0) <;> cases e2 : eqO X (some 0) <;> cases e3 : ltO X (some 1065353216)
  all_goals
    rw [turnB_of e1 e2 e3]
    rw [e1] at g1; rw [e2] at g2; rw [e3] at g3
    go_enter Try.func59, Try.ntmps59
    go_wp2
    go_ret
    exact ⟨rfl, rfl⟩
theorem implPhase_b (x : Nat) (X : O) (b : Bool) (w : World) (hx : Hid (Fv .f32 x X)) (h : turnB X = b) : Calls Try.prog 57 #[.float .f32 x] w fun e w' => e = .returned (.bool b) ∧ w = w' := by
  subst h
  have g1 := gt_fv hx fv0
  have g2 := eq_fv hx fv0
  have g3 := lt_fv hx fv1
  cases e1 : gtO X (some 0) <;> cases e2 : eqO X (some 0) <;> cases e3 : ltO X (some 1065353216)
  all_goals
    rw [turnB_of e1 e2 e3]
    rw [e1] at g1; rw [e2] at g2; rw [e3] at g3
    go_enter Try.func57, Try.ntmps57
    go_wp2
    go_ret
    exact ⟨rfl, rfl⟩
theorem specKind_b (k : Int) (b : Bool) (w : World) (h : inB k 0 3 = b) : Calls Try.prog 58 #[.int .i64 k] w fun e w' => e = .returned (.bool b) ∧ w = w' := by
  go_enter Try.func58, Try.ntmps58
  go_wp2_with (go_at_call 65; with_reducible refine (specHold_b k 0 3 _ _ h).mono ?_; rintro e w' ⟨rfl, rfl⟩)
  go_ret
  exact ⟨rfl, rfl⟩
/-- a wave as an interface's value -/
def wavV (k : Int) : Value := if k = 0 then .iface 126 (.agg #[]) else if k = 1 then .iface 127 (.agg #[]) else if k = 2 then .iface 128 (.agg #[]) else .iface 129 (.agg #[])
theorem waveOf_ok (k : Int) (w : World) (h : inB k 0 3 = true) : Calls Try.prog 56 #[.int .i64 k] w fun e w' => e = .returned (.tuple #[wavV k, .bool true]) ∧ w = w' := by
  simp only [inB, Bool.and_eq_true, decide_eq_true_eq] at h
  have h4 : k = 0 ∨ k = 1 ∨ k = 2 ∨ k = 3 := by omega
  clear h
  rcases h4 with rfl | rfl | rfl | rfl
  all_goals
    go_enter Try.func56, Try.ntmps56
    go_wp2
    go_ret2
    exact ⟨rfl, rfl⟩
theorem waveOf_no (k : Int) (w : World) (h : inB k 0 3 = false) : Calls Try.prog 56 #[.int .i64 k] w fun e w' => e = .returned (.tuple #[.nilIface, .bool false]) ∧ w = w' := by
  have h0 : ¬ k = 0 := by rintro rfl; simp [inB] at h
  have h1 : ¬ k = 1 := by rintro rfl; simp [inB] at h
  have h2 : ¬ k = 2 := by rintro rfl; simp [inB] at h
  have h3 : ¬ k = 3 := by rintro rfl; simp [inB] at h
  clear h
  go_enter Try.func56, Try.ntmps56
  go_wp2
  go_ret2
  exact ⟨rfl, rfl⟩
structure OscAt (w : World) (g : Nat) (e : OscN) : Prop where
  lt : g < w.heap.size
  k : w.cell? ⟨g, 0, none⟩ = some (.int .i64 e.k)
  st : w.cell? ⟨g, 1, none⟩ = some (.float .f32 e.st)
  ph : w.cell? ⟨g, 2, none⟩ = some (.float .f32 e.ph)
def oscB (e : OscN) : Obj := .cells #[.int .i64 e.k, .float .f32 e.st, .float .f32 e.ph] 26
theorem OscAt.new (w : World) (e : OscN) : OscAt (w.alloc (oscB e)) w.heap.size e := by unfold oscB; exact ⟨by simp, by simp [go_sem], by simp [go_sem], by simp [go_sem]⟩
theorem OscAt.since {w w' : World} {g B : Nat} {e : OscN} (h : OscAt w g e) (s : w.Since B w') (hg : g < B) : OscAt w' g e :=
  ⟨Nat.lt_of_lt_of_le h.lt s.size, (s.cell (a := ⟨g, 0, none⟩) hg).trans h.k, (s.cell (a := ⟨g, 1, none⟩) hg).trans h.st, (s.cell (a := ⟨g, 2, none⟩) hg).trans h.ph⟩
def okOsc (k : Int) (s p : O) : Bool := inB k 0 3 && turnB s && turnB p
theorem specIs_b (g : Nat) (e : OscN) (S P : O) (b : Bool) (w : World) (hA : OscAt w g e) (hs : Hid (Fv .f32 e.st S)) (hp : Hid (Fv .f32 e.ph P)) (h : okOsc e.k S P = b) :
    Calls Try.prog 55 #[.pointer (some ⟨g, 0, none⟩)] w fun e w' => e = .returned (.bool b) ∧ w = w' := by
  subst h
  obtain ⟨k, s, p⟩ := e
  obtain ⟨_, c0, c1, c2⟩ := hA
  simp only [okOsc] at *
  cases h1 : inB k 0 3 <;> cases h2 : turnB S <;> cases h3 : turnB P
  all_goals
    go_enter Try.func55, Try.ntmps55
    go_wp2_with (first | (go_at_call 58; with_reducible refine (specKind_b k _ _ h1).mono ?_; rintro e w1 ⟨rfl, rfl⟩) | (go_at_call 59; with_reducible refine (specTurn_b s S _ _ hs h2).mono ?_; rintro e w1 ⟨rfl, rfl⟩) | (go_at_call 59; with_reducible refine (specTurn_b p P _ _ hp h3).mono ?_; rintro e w1 ⟨rfl, rfl⟩))
    go_ret
    exact ⟨rfl, rfl⟩
theorem specValidOsc_b (e : OscN) (S P : O) (b : Bool) (w : World) (hs : Hid (Fv .f32 e.st S)) (hp : Hid (Fv .f32 e.ph P)) (h : okOsc e.k S P = b) : Calls Try.prog 15 #[e.val] w (PB b w) := by
  have HA := Lib.hid (specIs_b w.heap.size e S P b _ (OscAt.new w e) hs hp h)
  obtain ⟨k, s, p⟩ := e
  simp only [OscN.val, oscB] at *
  go_enter Try.func15, Try.ntmps15
  go_wp2_with (go_at_call 55; refine HA.out.mono ?_; rintro e w1 ⟨rfl, rfl⟩)
  go_ret
  exact ⟨rfl, by (repeat (first | (with_reducible refine Fl.sinDrew ?_) | (with_reducible refine World.Since.drew ?_) | (with_reducible refine Fl.sinSet ?_ ?_; rotate_left) | (with_reducible refine Fl.sinAlloc ?_ ?_; rotate_left) | with_reducible exact World.Since.refl _ _ | with_reducible assumption | (with_reducible refine Fl.sinStep (by with_reducible assumption) ?_))); all_goals (first | omega | (simp; done) | (simp; omega) | (simp [go_sem]; done) | (simp [go_sem]; omega))⟩
theorem implValidOsc_b (e : OscN) (S P : O) (b : Bool) (w : World) (hs : Hid (Fv .f32 e.st S)) (hp : Hid (Fv .f32 e.ph P)) (h : okOsc e.k S P = b) : Calls Try.prog 17 #[e.val] w (PB b w) := by
  subst h
  obtain ⟨k, s, p⟩ := e
  simp only [OscN.val, okOsc] at *
  cases h1 : inB k 0 3
  · go_enter Try.func17, Try.ntmps17
    go_wp2_with (first | (go_at_call 56; with_reducible refine (waveOf_no k _ h1).mono ?_; rintro e w1 ⟨rfl, rfl⟩))
    go_ret
    exact ⟨rfl, by (repeat (first | (with_reducible refine Fl.sinDrew ?_) | (with_reducible refine World.Since.drew ?_) | (with_reducible refine Fl.sinSet ?_ ?_; rotate_left) | (with_reducible refine Fl.sinAlloc ?_ ?_; rotate_left) | with_reducible exact World.Since.refl _ _ | with_reducible assumption | (with_reducible refine Fl.sinStep (by with_reducible assumption) ?_))); all_goals (first | omega | (simp; done) | (simp; omega) | (simp [go_sem]; done) | (simp [go_sem]; omega))⟩
  · have hw := fun w => waveOf_ok k w h1
    generalize wavV k = V at hw
    cases h2 : turnB S <;> cases h3 : turnB P
    all_goals
      go_enter Try.func17, Try.ntmps17
      go_wp2_with (first | (go_at_call 56; refine (hw _).mono ?_; rintro e w1 ⟨rfl, rfl⟩) | (go_at_call 57; with_reducible refine (implPhase_b s S _ _ hs h2).mono ?_; rintro e w1 ⟨rfl, rfl⟩) | (go_at_call 57; with_reducible refine (implPhase_b p P _ _ hp h3).mono ?_; rintro e w1 ⟨rfl, rfl⟩))
      go_ret
      exact ⟨rfl, by (repeat (first | (with_reducible refine Fl.sinDrew ?_) | (with_reducible refine World.Since.drew ?_) | (with_reducible refine Fl.sinSet ?_ ?_; rotate_left) | (with_reducible refine Fl.sinAlloc ?_ ?_; rotate_left) | with_reducible exact World.Since.refl _ _ | with_reducible assumption | (with_reducible refine Fl.sinStep (by with_reducible assumption) ?_))); all_goals (first | omega | (simp; done) | (simp; omega) | (simp [go_sem]; done) | (simp [go_sem]; omega))⟩
end Go.Proofs.Ytlodnikboekdpaa

/- Sines of phases: both sides. -/
set_option linter.unusedVariables false
set_option linter.unusedSimpArgs false
namespace Go.Proofs.Ytlodnikboekdpaa
open Fl Go.RowKit Ieee
theorem cutz (s : Bool) (n d : Nat) (h : n < 2 ^ d) : Toward.zero.cut s n d = 0 := by
  unfold Toward.cut
  dsimp only
  rw [Nat.shiftLeft_eq, Nat.one_mul]
  rw [Nat.div_eq_of_lt ?_]
  · rfl
  · rcases Nat.le_total d (n.log2 + 2) with h1 | h1
    · rw [Nat.min_eq_left h1]; exact h
    · rw [Nat.min_eq_right h1]
      exact Nat.lt_trans Nat.lt_log2_self (Nat.pow_lt_pow_right (by decide) (by omega))
theorem toInt_small {y : Nat} (h : rung .f64 y < rung .f64 cOne) : floatToIntVal .f64 y .i64 = some 0 := by
  have hf : rung .f64 y < FloatKind.f64.format.infRung := Nat.lt_trans h (by decide)
  obtain ⟨m, e, hr, hz⟩ := read_fin .f64 hf
  obtain ⟨D, hD⟩ : ∃ D : Nat, D = 1074 := ⟨_, rfl⟩
  have h1 : zv .f64 (rung .f64 cOne) = 2 ^ D := by rw [hD]; decide +kernel
  have h2 : FloatKind.f64.format.leastPlace = -(D : Int) := by rw [hD]; decide
  have h3 : m * 2 ^ e < 2 ^ D := by rw [← hz, ← h1]; exact (zv_lt .f64).2 h
  clear hD h1
  have hd : FloatKind.f64.decode y = .number (sgn .f64 y) m (-(D : Int) + e) := by rw [← h2]; exact hr
  have hi : (Datum.number (sgn .f64 y) m (-(D : Int) + e)).toInt .zero = some 0 := by
    unfold Datum.toInt Datum.integral
    dsimp only
    have hc : Toward.zero.cut (sgn .f64 y) (m <<< (-(D : Int) + e).toNat) (-(-(D : Int) + e)).toNat = 0 := by
      refine cutz _ _ _ ?_
      rw [Nat.shiftLeft_eq]
      rcases Nat.le_total e D with h4 | h4
      · rw [show (-(D : Int) + e).toNat = 0 by omega, show (-(-(D : Int) + e)).toNat = D - e by omega, Nat.pow_zero, Nat.mul_one]
        have h5 : 2 ^ D = 2 ^ (D - e) * 2 ^ e := by rw [← Nat.pow_add]; congr 1; omega
        rw [h5] at h3
        exact Nat.lt_of_mul_lt_mul_right h3
      · have h5 : 2 ^ D ≤ 2 ^ e := Nat.pow_le_pow_right (by decide) h4
        have h6 : m = 0 := by
          rcases Nat.eq_zero_or_pos m with h6 | h6
          · exact h6
          · have := Nat.le_mul_of_pos_left (2 ^ e) h6
            omega
        subst h6
        rw [Nat.zero_mul]
        exact Nat.two_pow_pos _
    rw [hc]
    simp [signed]
  unfold floatToIntVal
  rw [hd, hi]
  rfl
def p2 (k : Nat) : Nat := (1023 + k) * 4503599627370496
theorem mulC {x y c d M : Nat} (hx : rung .f64 x ≤ rung .f64 c) (hy : rung .f64 y ≤ rung .f64 d) (hc : Fin .f64 c) (hd : Fin .f64 d) (hM : (floatBits .mul .f64 c d).map (fun m => decide (rung .f64 m ≤ rung .f64 M)) = some true) : ∃ m, opO .mul .f64 (some x) (some y) = some m ∧ rung .f64 m ≤ rung .f64 M := by
  obtain ⟨m, m', hm, hm', hle⟩ := mul_size .f64 (Nat.lt_of_le_of_lt hx hc) (Nat.lt_of_le_of_lt hy hd) hc hd hx hy
  rw [hm'] at hM
  exact ⟨m, hm, Nat.le_trans hle (by simpa using hM)⟩
theorem addC {x y c d M : Nat} (hx : rung .f64 x ≤ rung .f64 c) (hy : rung .f64 y ≤ rung .f64 d) (hc : Fin .f64 c) (hd : Fin .f64 d) (sc : sgn .f64 c = false) (sd : sgn .f64 d = false) (hM : (floatBits .add .f64 c d).map (fun m => decide (rung .f64 m ≤ rung .f64 M)) = some true) : ∃ m, opO .add .f64 (some x) (some y) = some m ∧ rung .f64 m ≤ rung .f64 M := by
  obtain ⟨m, m', hm, hm', hle⟩ := add_size .f64 (Nat.lt_of_le_of_lt hx hc) (Nat.lt_of_le_of_lt hy hd) hc hd sc sd hx hy
  rw [hm'] at hM
  exact ⟨m, hm, Nat.le_trans hle (by simpa using hM)⟩
theorem subC {x y c d M : Nat} (hx : rung .f64 x ≤ rung .f64 c) (hy : rung .f64 y ≤ rung .f64 d) (hc : Fin .f64 c) (hd : Fin .f64 d) (sc : sgn .f64 c = false) (sd : sgn .f64 d = false) (hM : (floatBits .add .f64 c d).map (fun m => decide (rung .f64 m ≤ rung .f64 M)) = some true) : ∃ m, opO .sub .f64 (some x) (some y) = some m ∧ rung .f64 m ≤ rung .f64 M := by
  obtain ⟨m, m', hm, hm', hle⟩ := sub_size .f64 (Nat.lt_of_le_of_lt hx hc) (Nat.lt_of_le_of_lt hy hd) hc hd sc sd hx hy
  rw [hm'] at hM
  exact ⟨m, hm, Nat.le_trans hle (by simpa using hM)⟩
theorem divC {x y c : Nat} (hx : rung .f64 x ≤ rung .f64 c) (hc : Fin .f64 c) (hy : rung .f64 cOne ≤ rung .f64 y) (hf : Fin .f64 y) : ∃ q, opO .quo .f64 (some x) (some y) = some q ∧ rung .f64 q ≤ rung .f64 c := by
  refine div_size .f64 (x := x) (y := y) (t := c) (Nat.lt_of_le_of_lt hx hc) hf hc (by
    have : 0 < rung .f64 cOne := by decide
    omega) 1074 (by decide) ?_
  have e1 := (zv_le .f64).2 hy
  rw [show zv .f64 (rung .f64 cOne) = 2 ^ 1074 by decide +kernel] at e1
  exact Nat.mul_le_mul ((zv_le .f64).2 hx) e1
def sinK (i : Nat) : Int := ((2 * (8 - i) * (2 * (8 - i) + 1) : Nat) : Int)
def sinP (u : O) : Nat → O
  | 0 => some cOne
  | i + 1 => opO .sub .f64 (some cOne) (opO .quo .f64 (opO .mul .f64 u (sinP u i)) (some (floatOfInt .f64 (sinK i))))
theorem sinW : ∀ i < 8, (floatBits .mul .f64 (p2 10) (p2 (11 * i))).map (fun m => decide (rung .f64 m ≤ rung .f64 (p2 (11 * i + 10)))) = some true ∧ (floatBits .add .f64 cOne (p2 (11 * i + 10))).map (fun m => decide (rung .f64 m ≤ rung .f64 (p2 (11 * (i + 1))))) = some true
    ∧ rung .f64 (p2 (11 * i)) < FloatKind.f64.format.infRung ∧ rung .f64 (p2 (11 * i + 10)) < FloatKind.f64.format.infRung ∧ sgn .f64 (p2 (11 * i + 10)) = false ∧ rung .f64 (floatOfInt .f64 (sinK i)) < FloatKind.f64.format.infRung ∧ rung .f64 cOne ≤ rung .f64 (floatOfInt .f64 (sinK i)) := by decide +kernel
theorem sinP_size {u : Nat} (h : rung .f64 u ≤ rung .f64 (p2 10)) : ∀ i, i ≤ 8 → ∃ p, sinP (some u) i = some p ∧ rung .f64 p ≤ rung .f64 (p2 (11 * i))
  | 0, _ => ⟨cOne, rfl, by decide⟩
  | i + 1, hi => by
    obtain ⟨p, hp, hb⟩ := sinP_size h i (by omega)
    obtain ⟨w1, w2, w3, w4, w5, w6, w7⟩ := sinW i (by omega)
    obtain ⟨m, hm, hmb⟩ := mulC h hb (by decide : rung .f64 (p2 10) < _) w3 w1
    obtain ⟨q, hq, hqb⟩ := divC hmb w4 w7 w6
    obtain ⟨r, hr, hrb⟩ := subC (c := cOne) (Nat.le_refl (rung .f64 cOne)) hqb (by decide : rung .f64 cOne < _) w4 (by decide) w5 w2
    refine ⟨r, ?_, hrb⟩
    unfold sinP
    rw [hp, hm, hq, hr]
def ser (z : O) : O := opO .mul .f64 z (sinP (opO .mul .f64 z z) 8)
theorem ser_size {z : Nat} (h : rung .f64 z ≤ rung .f64 (p2 5)) : ∃ r, ser (some z) = some r ∧ rung .f64 r ≤ rung .f64 w100 := by
  obtain ⟨u, hu, hub⟩ := mulC (M := p2 10) h h (by decide : rung .f64 (p2 5) < _) (by decide : rung .f64 (p2 5) < _) (by decide +kernel)
  obtain ⟨p, hp, hpb⟩ := sinP_size hub 8 (Nat.le_refl _)
  obtain ⟨r, hr, hrb⟩ := mulC (M := w100) h hpb (by decide : rung .f64 (p2 5) < _) (by decide : rung .f64 (p2 (11 * 8)) < _) (by decide +kernel)
  refine ⟨r, ?_, hrb⟩
  unfold ser
  rw [hu, hp, hr]
def cHalf : Nat := 4602678819172646912
def cQuar : Nat := 4598175219545276416
def c2pi : Nat := 4618760256179416344
def lt64 (a b : O) : Bool := ordO .f64 a b == some .lt
def gt64 (a b : O) : Bool := ordO .f64 a b == some .gt
def eq64 (a b : O) : Bool := ordO .f64 a b == some .eq
def ge64 (a b : O) : Bool := gt64 a b || eq64 a b
def sinF1 (f : O) : O := if lt64 f (some 0) then opO .add .f64 f (some cOne) else f
def sinB (f : O) : Bool := ge64 f (some cHalf)
def sinF2 (f : O) : O := if sinB f then opO .sub .f64 f (some cHalf) else f
def sinF3 (f : O) : O := if gt64 f (some cQuar) then opO .sub .f64 (some cHalf) f else f
def sinS (f1 : O) : O := ser (opO .mul .f64 (sinF3 (sinF2 f1)) (some c2pi))
def sinR (f0 : O) : O := if sinB (sinF1 f0) then (sinS (sinF1 f0)).map (Op.negFloat .f64) else sinS (sinF1 f0)
def w25 : Nat := 4612811918334230528
def w3 : Nat := 4613937818241073152
theorem sinS_size {f : Nat} (h : rung .f64 f ≤ rung .f64 (p2 1)) : ∃ r, sinS (some f) = some r ∧ rung .f64 r ≤ rung .f64 w100 := by
  obtain ⟨a, ha, hab⟩ : ∃ a, sinF2 (some f) = some a ∧ rung .f64 a ≤ rung .f64 w25 := by
    unfold sinF2
    split
    · exact subC h (Nat.le_refl (rung .f64 cHalf)) (by decide : rung .f64 (p2 1) < _) (by decide : rung .f64 cHalf < _) (by decide) (by decide) (by decide +kernel)
    · exact ⟨f, rfl, Nat.le_trans h (by decide)⟩
  obtain ⟨b, hb, hbb⟩ : ∃ b, sinF3 (some a) = some b ∧ rung .f64 b ≤ rung .f64 w3 := by
    unfold sinF3
    split
    · exact subC (Nat.le_refl (rung .f64 cHalf)) hab (by decide : rung .f64 cHalf < _) (by decide : rung .f64 w25 < _) (by decide) (by decide) (by decide +kernel)
    · exact ⟨a, rfl, Nat.le_trans hab (by decide)⟩
  obtain ⟨z, hz, hzb⟩ := mulC (M := p2 5) hbb (Nat.le_refl (rung .f64 c2pi)) (by decide : rung .f64 w3 < _) (by decide : rung .f64 c2pi < _) (by decide +kernel)
  unfold sinS
  rw [ha, hb, hz]
  exact ser_size hzb
theorem sinF1_size {f : Nat} (h : rung .f64 f ≤ rung .f64 cOne) : ∃ a, sinF1 (some f) = some a ∧ rung .f64 a ≤ rung .f64 (p2 1) := by
  unfold sinF1
  split
  · exact addC h (Nat.le_refl (rung .f64 cOne)) (by decide : rung .f64 cOne < _) (by decide : rung .f64 cOne < _) (by decide) (by decide) (by decide +kernel)
  · exact ⟨f, rfl, Nat.le_trans h (by decide)⟩
theorem sinR_size {f : Nat} (h : rung .f64 f ≤ rung .f64 cOne) : ∃ r, sinR (some f) = some r ∧ rung .f64 r ≤ rung .f64 w100 := by
  obtain ⟨a, ha, hab⟩ := sinF1_size h
  obtain ⟨r, hr, hrb⟩ := sinS_size hab
  unfold sinR
  rw [ha, hr]
  split
  · refine ⟨_, rfl, ?_⟩
    unfold rung at *
    rw [neg_mod]; exact hrb
  · exact ⟨r, rfl, hrb⟩
theorem fits_sin {f r : Nat} (h : rung .f64 f ≤ rung .f64 cOne) (hr : Fv .f64 r (sinR (some f))) : Fits .f64 .f32 r := by
  obtain ⟨q, e, hql⟩ := sinR_size h
  have h3 := hr.2
  rw [e] at h3
  obtain rfl := ab_some h3
  exact fits_size hql
end Go.Proofs.Ytlodnikboekdpaa

/- Sines of phases: the walks. -/
set_option linter.unusedVariables false
set_option linter.unusedSimpArgs false
namespace Go.Proofs.Ytlodnikboekdpaa
open Fl Go.RowKit Ieee
theorem lt64_fv {p q : Nat} {P Q : O} (hp : Hid (Fv .f64 p P)) (hq : Hid (Fv .f64 q Q)) : (FloatKind.f64.format.order p q == some .lt) = lt64 P Q := by rw [ord_fv hp hq]; rfl
theorem gt64_fv {p q : Nat} {P Q : O} (hp : Hid (Fv .f64 p P)) (hq : Hid (Fv .f64 q Q)) : (FloatKind.f64.format.order p q == some .gt) = gt64 P Q := by rw [ord_fv hp hq]; rfl
theorem eq64_fv {p q : Nat} {P Q : O} (hp : Hid (Fv .f64 p P)) (hq : Hid (Fv .f64 q Q)) : (FloatKind.f64.format.order p q == some .eq) = eq64 P Q := by rw [ord_fv hp hq]; rfl
theorem fv64c {b : Nat} (h : b < 18446744073709551616) (h2 : ab .f64 b = some b) : Hid (Fv .f64 b (some b)) := Lib.hid ⟨h, h2⟩
theorem fq1 : Hid (Fv .f64 4607182418800017408 (some cOne)) := fv64c (by decide) (by rw [ab64]; rfl)
theorem fqh : Hid (Fv .f64 4602678819172646912 (some cHalf)) := fv64c (by decide) (by rw [ab64]; rfl)
theorem fqq : Hid (Fv .f64 4598175219545276416 (some cQuar)) := fv64c (by decide) (by rw [ab64]; rfl)
theorem fqp : Hid (Fv .f64 4618760256179416344 (some c2pi)) := fv64c (by decide) (by rw [ab64]; rfl)
theorem fqz : Hid (Fv .f64 0 (some 0)) := fv64c (by decide) (by rw [ab64]; rfl)
theorem fqi (n : Int) : Hid (Fv .f64 (floatOfInt .f64 n) (some (floatOfInt .f64 n))) := Lib.hid (fv_write .f64 (d := .number (decide (n < 0)) n.natAbs 0) rfl)
theorem sinK_of {k : Nat} (h : k ≤ 8) : sinK (8 - k) = ((2 * k * (2 * k + 1) : Nat) : Int) := by unfold sinK; rw [show 8 - (8 - k) = k by omega]
set_option maxHeartbeats 4000000 in
set_option maxRecDepth 100000 in
theorem implSeries_any (z : Nat) (Z : O) (w : World) (hz : Hid (Fv .f64 z Z)) :
    Calls Try.prog 146 #[.float .f64 z] w (RetF .f64 (ser Z) w) := by
  have k1 := fq1
  go_enter Try.func146, Try.ntmps146
  go_wp2_with (with_reducible_and_instances refine Lo.wpList_fo _ rfl _ _ _ _ _ rfl _ _ _ _ _ rfl rfl rfl (by assumption) (by assumption) ?_; intro rr nn hrr)
  have hu := hrr
  go_loopw [4, 5] (fun p kk wr => ∃ (k m r : Nat), k ≤ 8 ∧ kk = .int .i64 k ∧ p = .float .f64 r ∧ Hid (Fv .f64 r (sinP (opO .mul .f64 Z Z) (8 - k))) ∧ wr = w.drewN m) (fun _ kk _ => (intOf kk).toNat)
  case atStart => exact ⟨8, _, _, Nat.le_refl _, rfl, rfl, fq1, rfl⟩
  case round =>
    obtain ⟨k, m, r, hk, rfl, rfl, hr, rfl⟩ := hrel
    by_cases hlt : 1 ≤ k
    · obtain ⟨M, hM⟩ : ∃ M, 2 * k * (2 * k + 1) = M := ⟨_, rfl⟩
      have hM2 : 2 * (k : Int) * (2 * (k : Int) + 1) = (M : Int) := by rw [← hM]; push_cast; rfl
      have hMb : M ≤ 272 := by rw [← hM]; exact Nat.mul_le_mul (show 2 * k ≤ 16 by omega) (show 2 * k + 1 ≤ 17 by omega)
      have hi := fqi (M : Int)
      have eK : Hid (sinP (opO .mul .f64 Z Z) (8 - (k - 1)) = opO .sub .f64 (some cOne) (opO .quo .f64 (opO .mul .f64 (opO .mul .f64 Z Z) (sinP (opO .mul .f64 Z Z) (8 - k))) (some (floatOfInt .f64 (M : Int))))) := Lib.hid (by
        rw [show 8 - (k - 1) = (8 - k) + 1 by omega, ← hM, ← sinK_of (by omega)]; rfl)
      clear hM
      go_wp2_with (with_reducible_and_instances refine Lo.wpList_fo _ rfl _ _ _ _ _ rfl _ _ _ _ _ rfl rfl rfl (by assumption) (by assumption) ?_; intro rr nn hrr)
      rw [← eK.out] at hrr
      go_roundw
      case rel => exact ⟨k - 1, _, _, by omega, by go_num, rfl, hrr, rfl⟩
      case measure => simp [intOf]; omega
    · obtain rfl : k = 0 := by omega
      rw [show ((0 : Nat) : Int) = 0 from rfl]
      go_wp2_with (with_reducible_and_instances refine Lo.wpList_fo _ rfl _ _ _ _ _ rfl _ _ _ _ _ rfl rfl rfl (by assumption) (by assumption) ?_; intro rr nn hrr)
      go_ret
      exact ⟨_, _, rfl, hrr.out, rfl⟩
end Go.Proofs.Ytlodnikboekdpaa

/- Sines of phases: both sides. -/
set_option linter.unusedVariables false
set_option linter.unusedSimpArgs false
namespace Go.Proofs.Ytlodnikboekdpaa
open Fl Go.RowKit Ieee
theorem sw64 : FloatKind.f64.format.signWeight = 9223372036854775808 := by decide
/-- a number of size less than 1, against one that is not -/
theorem ord_lt {x c : Nat} (hx : ab .f64 x = some x) (hc : ab .f64 c = some c) (h : rung .f64 x < rung .f64 cOne) (sc : sgn .f64 c = false) (h2 : rung .f64 cOne ≤ rung .f64 c) : FloatKind.f64.format.order x c = some .lt := by
  rw [order_key .f64 hx hc]
  unfold key
  rw [sc]
  have : sg (sgn .f64 x) (rung .f64 x) < sg false (rung .f64 c) := by unfold sg; simp only [Bool.false_eq_true, if_false]; split <;> omega
  simp [compare, compareOfLessAndEq, this]
theorem ord_gt {x c : Nat} (hx : ab .f64 x = some x) (hc : ab .f64 c = some c) (h : rung .f64 x < rung .f64 cOne) (sc : sgn .f64 c = true) (h2 : rung .f64 cOne ≤ rung .f64 c) : FloatKind.f64.format.order x c = some .gt := by
  rw [order_key .f64 hx hc]
  unfold key
  rw [sc]
  have h3 : sg true (rung .f64 c) < sg (sgn .f64 x) (rung .f64 x) := by unfold sg; simp only [if_true]; split <;> omega
  have h4 : ¬ sg (sgn .f64 x) (rung .f64 x) < sg true (rung .f64 c) := by omega
  have h5 : ¬ sg (sgn .f64 x) (rung .f64 x) = sg true (rung .f64 c) := by omega
  simp [compare, compareOfLessAndEq, h4, h5]
theorem ab_size {x : Nat} (h : rung .f64 x < rung .f64 cOne) : ab .f64 (x % 9223372036854775808) = some (x % 9223372036854775808) := by
  rw [ab64]
  have h1 : x % 9223372036854775808 < rung .f64 cOne := by unfold rung at h; rw [sw64] at h; exact h
  have h2 : rung .f64 cOne = 4607182418800017408 := by decide
  rw [if_neg (by omega)]
theorem abx {x : Nat} (h : rung .f64 x < rung .f64 cOne) : ab .f64 x = some x := by
  rw [ab64]
  have h1 : x % 9223372036854775808 < rung .f64 cOne := by unfold rung at h; rw [sw64] at h; exact h
  have h2 : rung .f64 cOne = 4607182418800017408 := by decide
  rw [if_neg (by omega)]
theorem bitsc64 {p : Nat} (hp : p < 18446744073709551616) : bits .andNot .u64 (p : Int) 9223372036854775808 = ((p % 9223372036854775808 : Nat) : Int) := by
  have h := u64_andNot_nat p 9223372036854775808 hp (by decide)
  have e : ((9223372036854775808 : Nat) : Int) = 9223372036854775808 := rfl
  rw [e] at h
  rw [h]
  have e2 : (18446744073709551615 - 9223372036854775808 : Nat) = 2 ^ 63 - 1 := rfl
  rw [e2, Nat.and_two_pow_sub_one_eq_mod]
@[go_sem] theorem Try.f64bits (b : Nat) (w : World) : (callFunc 147 #[.float .f64 b]).run Try.prog w = .ok (.value (.int .u64 b)) w := by
  rw [run_callFunc_extern (P := Try.prog) (fn := Try.f147) (e := Extern.MathFloatBits.float64bits) (by kernel_rfl) (by kernel_rfl) (by kernel_rfl) (by kernel_rfl) (by kernel_rfl)]
  rfl
set_option maxRecDepth 100000 in
theorem mathAbs64 (x : Nat) (w : World) (hx : x < 18446744073709551616) :
    Calls Try.prog 144 #[.float .f64 x] w fun e w' => e = .returned (.float .f64 (x % 9223372036854775808)) ∧ w = w' := by
  have hb := bitsc64 hx
  go_enter Try.func144, Try.ntmps144
  go_wp2
  go_ret
  exact ⟨by simp, rfl⟩
theorem mathNaN0 (x : Nat) (w : World) (h : ab .f64 x = some x) : Calls Try.prog 142 #[.float .f64 x] w fun e w' => e = .returned (.bool false) ∧ w = w' := by
  have hs : FloatKind.f64.format.order x x = some .eq := ord_self x h
  clear h
  go_enter Try.func142, Try.ntmps142
  go_wp2
  go_ret
  exact ⟨rfl, rfl⟩
set_option maxRecDepth 100000 in
theorem mathInf0 (x : Nat) (w : World) (hx : x < 18446744073709551616) (h : rung .f64 x < rung .f64 cOne) : Calls Try.prog 143 #[.float .f64 x, .int .i64 0] w fun e w' => e = .returned (.bool false) ∧ w = w' := by
  have h1 : rung .f64 (x % 9223372036854775808) < rung .f64 cOne := by unfold rung at *; rw [sw64] at *; rw [Nat.mod_mod]; exact h
  have ho := ord_lt (c := 9218868437227405311) (ab_size h) (by rw [ab64]; rfl) h1 (by decide) (by decide)
  clear h h1
  go_enter Try.func143, Try.ntmps143
  go_wp2_with (go_at_call 144; refine (mathAbs64 _ _ hx).mono ?_; rintro e w' ⟨rfl, rfl⟩)
  go_ret
  exact ⟨rfl, rfl⟩
def sinF0 (y : Nat) : O := opO .sub .f64 (some y) (some (floatOfInt .f64 0))
theorem sinF0_size {y : Nat} (h : rung .f64 y < rung .f64 cOne) : ∃ f, sinF0 y = some f ∧ rung .f64 f ≤ rung .f64 cOne :=
  subC (c := cOne) (d := floatOfInt .f64 0) (Nat.le_of_lt h) (Nat.le_refl (rung .f64 (floatOfInt .f64 0))) (by decide : rung .f64 cOne < _) (by decide +kernel : rung .f64 (floatOfInt .f64 0) < _) (by decide) (by decide +kernel) (by decide +kernel)
theorem conv0 {y : Nat} (h : rung .f64 y < rung .f64 cOne) (w : World) : (convert 32 2 (.float .f64 y)).run Try.prog w = .ok (.int .i64 0) w :=
  run_convert_float_int w 32 2 .f64 .i64 y 0 (by kernel_rfl) (by kernel_rfl) (toInt_small h)
set_option maxHeartbeats 2000000 in
set_option maxRecDepth 100000 in
theorem implPart_any (y : Nat) (w : World) (hy : y < 18446744073709551616) (h : rung .f64 y < rung .f64 cOne) :
    Calls Try.prog 145 #[.float .f64 y] w (RetF .f64 (sinF1 (sinF0 y)) w) := by
  have hcv := conv0 h
  have hy2 := fv64c hy (abx h)
  have h0 := fqi 0
  have k1 := fq1
  clear h
  cases e : lt64 (sinF0 y) (some 0)
  · have eF : sinF1 (sinF0 y) = sinF0 y := by unfold sinF1; rw [e]; rfl
    rw [eF]
    unfold sinF0 at *
    go_enter Try.func145, Try.ntmps145
    go_wp2_with (first | (with_reducible_and_instances refine Lo.wpList_fo _ rfl .sub _ _ _ _ rfl _ _ _ _ _ rfl rfl rfl (by assumption) (by assumption) ?_; intro r1 n1 hr1; have g := lt64_fv hr1 fqz; rw [e] at g))
    go_ret
    exact ⟨_, _, rfl, hr1.out, rfl⟩
  · have eF : sinF1 (sinF0 y) = opO .add .f64 (sinF0 y) (some cOne) := by unfold sinF1; rw [e]; rfl
    rw [eF]
    unfold sinF0 at *
    go_enter Try.func145, Try.ntmps145
    go_wp2_with (first | (with_reducible_and_instances refine Lo.wpList_fo _ rfl .sub _ _ _ _ rfl _ _ _ _ _ rfl rfl rfl (by assumption) (by assumption) ?_; intro r1 n1 hr1; have g := lt64_fv hr1 fqz; rw [e] at g) | (with_reducible_and_instances refine Lo.wpList_fo _ rfl _ _ _ _ _ rfl _ _ _ _ _ rfl rfl rfl (by assumption) (by assumption) ?_; intro rr nn hrr))
    go_ret
    exact ⟨_, _, rfl, hrr.out, rfl⟩
end Go.Proofs.Ytlodnikboekdpaa

/- Sines of phases: both sides. -/
set_option linter.unusedVariables false
set_option linter.unusedSimpArgs false
namespace Go.Proofs.Ytlodnikboekdpaa
open Fl Go.RowKit Ieee
theorem neg64_fv {b : Nat} {X : O} (h : Hid (Fv .f64 b X)) : Hid (Fv .f64 (Op.negFloat .f64 b) (X.map (Op.negFloat .f64))) := Lib.hid ⟨neg_lt .f64 h.out.1, by rw [ab_neg, h.out.2]⟩
theorem sinB_of {F : O} {b1 b2 : Bool} (h1 : gt64 F (some cHalf) = b1) (h2 : eq64 F (some cHalf) = b2) : sinB F = (b1 || b2) := by unfold sinB ge64; rw [h1, h2]
theorem sinR_no {f : O} {F1 : O} (h : sinF1 f = F1) (hb : sinB F1 = false) : sinR f = ser (opO .mul .f64 (sinF3 F1) (some c2pi)) := by
  unfold sinR sinS sinF2; rw [h, hb]; rfl
theorem sinR_yes {f : O} {F1 : O} (h : sinF1 f = F1) (hb : sinB F1 = true) : sinR f = (ser (opO .mul .f64 (sinF3 (opO .sub .f64 F1 (some cHalf))) (some c2pi))).map (Op.negFloat .f64) := by
  unfold sinR sinS sinF2; rw [h, hb]; rfl
theorem sinF3_no {f : O} (h : gt64 f (some cQuar) = false) : sinF3 f = f := by unfold sinF3; rw [h]; rfl
theorem sinF3_yes {f : O} (h : gt64 f (some cQuar) = true) : sinF3 f = opO .sub .f64 (some cHalf) f := by unfold sinF3; rw [h]; rfl
set_option maxHeartbeats 8000000 in
set_option maxRecDepth 100000 in
theorem implSine_any (y : Nat) (w : World) (hy : y < 18446744073709551616) (h : rung .f64 y < rung .f64 cOne) :
    Calls Try.prog 141 #[.float .f64 y] w (RetF .f64 (sinR (sinF0 y)) w) := by
  have hN := fun w => mathNaN0 y w (abx h)
  have hI := fun w => mathInf0 y w hy h
  have h1 : rung .f64 (y % 9223372036854775808) < rung .f64 cOne := by unfold rung at *; rw [sw64] at *; rw [Nat.mod_mod]; exact h
  have ho := ord_lt (c := 4841369599423283200) (ab_size h) (by rw [ab64]; rfl) h1 (by decide) (by decide)
  have hP := fun w => implPart_any y w hy h
  have k1 := fqh; have k2 := fqp
  clear h h1
  generalize hF : sinF1 (sinF0 y) = F1 at *
  have HF := Lib.hid hF; clear hF
  cases e1 : gt64 F1 (some cHalf) <;> cases e2 : eq64 F1 (some cHalf)
  case false.false =>
    have hb : sinB F1 = false := sinB_of e1 e2
    rw [sinR_no HF.out hb]
    cases e3 : gt64 F1 (some cQuar)
    · rw [sinF3_no e3]
      go_enter Try.func141, Try.ntmps141
      go_wp2_with (first | (go_at_call 142; refine (hN _).mono ?_; rintro e w' ⟨rfl, rfl⟩) | (go_at_call 143; refine (hI _).mono ?_; rintro e w' ⟨rfl, rfl⟩) | (go_at_call 144; refine (mathAbs64 _ _ hy).mono ?_; rintro e w' ⟨rfl, rfl⟩) | (go_at_call 145; refine (hP _).mono ?_; rintro e w' ⟨f1, m1, rfl, hv, rfl⟩; have hf1 := Lib.hid hv; clear hv; have g1 := gt64_fv hf1 fqh; have g2 := eq64_fv hf1 fqh; have g3 := gt64_fv hf1 fqq; rw [e1] at g1; rw [e2] at g2; rw [e3] at g3) | (go_at_call 146; refine (implSeries_any _ _ _ (by assumption)).mono ?_; rintro e w' ⟨r9, m9, rfl, hv, rfl⟩; have hr9 := Lib.hid hv; clear hv) | (with_reducible_and_instances refine Lo.wpList_fo _ rfl _ _ _ _ _ rfl _ _ _ _ _ rfl rfl rfl (by assumption) (by assumption) ?_; intro rr nn hrr))
      go_ret
      exact ⟨_, _, rfl, hr9.out, rfl⟩
    · rw [sinF3_yes e3]
      go_enter Try.func141, Try.ntmps141
      go_wp2_with (first | (go_at_call 142; refine (hN _).mono ?_; rintro e w' ⟨rfl, rfl⟩) | (go_at_call 143; refine (hI _).mono ?_; rintro e w' ⟨rfl, rfl⟩) | (go_at_call 144; refine (mathAbs64 _ _ hy).mono ?_; rintro e w' ⟨rfl, rfl⟩) | (go_at_call 145; refine (hP _).mono ?_; rintro e w' ⟨f1, m1, rfl, hv, rfl⟩; have hf1 := Lib.hid hv; clear hv; have g1 := gt64_fv hf1 fqh; have g2 := eq64_fv hf1 fqh; rw [e1] at g1; rw [e2] at g2; have g3 := gt64_fv hf1 fqq; rw [e3] at g3) | (go_at_call 146; refine (implSeries_any _ _ _ (by assumption)).mono ?_; rintro e w' ⟨r9, m9, rfl, hv, rfl⟩; have hr9 := Lib.hid hv; clear hv) | (with_reducible_and_instances refine Lo.wpList_fo _ rfl _ _ _ _ _ rfl _ _ _ _ _ rfl rfl rfl (by assumption) (by assumption) ?_; intro rr nn hrr))
      go_ret
      exact ⟨_, _, rfl, hr9.out, rfl⟩
  all_goals
    have hb : sinB F1 = true := sinB_of e1 e2
    rw [sinR_yes HF.out hb]
    cases e3 : gt64 (opO .sub .f64 F1 (some cHalf)) (some cQuar)
    · rw [sinF3_no e3]
      go_enter Try.func141, Try.ntmps141
      go_wp2_with (first | (go_at_call 142; refine (hN _).mono ?_; rintro e w' ⟨rfl, rfl⟩) | (go_at_call 143; refine (hI _).mono ?_; rintro e w' ⟨rfl, rfl⟩) | (go_at_call 144; refine (mathAbs64 _ _ hy).mono ?_; rintro e w' ⟨rfl, rfl⟩) | (go_at_call 145; refine (hP _).mono ?_; rintro e w' ⟨f1, m1, rfl, hv, rfl⟩; have hf1 := Lib.hid hv; clear hv; have g1 := gt64_fv hf1 fqh; have g2 := eq64_fv hf1 fqh; rw [e1] at g1; rw [e2] at g2) | (go_at_call 146; refine (implSeries_any _ _ _ (by assumption)).mono ?_; rintro e w' ⟨r9, m9, rfl, hv, rfl⟩; have hr9 := Lib.hid hv; clear hv) | (with_reducible_and_instances refine Lo.wpList_fo _ rfl .sub _ _ _ _ rfl _ _ _ _ _ rfl rfl rfl hf1 k1 ?_; intro r2 n2 hr2; have g3 := gt64_fv hr2 fqq; rw [e3] at g3) | (with_reducible_and_instances refine Lo.wpList_fo _ rfl _ _ _ _ _ rfl _ _ _ _ _ rfl rfl rfl (by assumption) (by assumption) ?_; intro rr nn hrr))
      go_ret
      exact ⟨_, _, rfl, (neg64_fv hr9).out, rfl⟩
    · rw [sinF3_yes e3]
      go_enter Try.func141, Try.ntmps141
      go_wp2_with (first | (go_at_call 142; refine (hN _).mono ?_; rintro e w' ⟨rfl, rfl⟩) | (go_at_call 143; refine (hI _).mono ?_; rintro e w' ⟨rfl, rfl⟩) | (go_at_call 144; refine (mathAbs64 _ _ hy).mono ?_; rintro e w' ⟨rfl, rfl⟩) | (go_at_call 145; refine (hP _).mono ?_; rintro e w' ⟨f1, m1, rfl, hv, rfl⟩; have hf1 := Lib.hid hv; clear hv; have g1 := gt64_fv hf1 fqh; have g2 := eq64_fv hf1 fqh; rw [e1] at g1; rw [e2] at g2) | (go_at_call 146; refine (implSeries_any _ _ _ (by assumption)).mono ?_; rintro e w' ⟨r9, m9, rfl, hv, rfl⟩; have hr9 := Lib.hid hv; clear hv) | (with_reducible_and_instances refine Lo.wpList_fo _ rfl .sub _ _ _ _ rfl _ _ _ _ _ rfl rfl rfl hf1 k1 ?_; intro r2 n2 hr2; have g3 := gt64_fv hr2 fqq; rw [e3] at g3) | (with_reducible_and_instances refine Lo.wpList_fo _ rfl _ _ _ _ _ rfl _ _ _ _ _ rfl rfl rfl (by assumption) (by assumption) ?_; intro rr nn hrr))
      go_ret
      exact ⟨_, _, rfl, (neg64_fv hr9).out, rfl⟩
end Go.Proofs.Ytlodnikboekdpaa

/- Sines of phases: the model's; both sides narrowed. -/
set_option linter.unusedVariables false
set_option linter.unusedSimpArgs false
namespace Go.Proofs.Ytlodnikboekdpaa
open Fl Go.RowKit Ieee
theorem sub_self64 {y : Nat} (h : rung .f64 y < rung .f64 cOne) : opO .sub .f64 (some y) (some y) = some 0 := by
  have h1 := sub_self_any .f64 y
  rw [abx h] at h1
  rw [h1, if_pos (Nat.lt_trans h (by decide))]
theorem ord00 : ordO .f64 (some 0) (some 0) = some .eq := by decide +kernel
set_option maxHeartbeats 8000000 in
set_option maxRecDepth 100000 in
theorem specSine_000 (y : Nat) (w : World) (hy : y < 18446744073709551616) (h : rung .f64 y < rung .f64 cOne) (b1 b2 : Bool) (el : lt64 (sinF0 y) (some 0) = false) (h1 : gt64 (sinF0 y) (some cHalf) = b1) (h2 : eq64 (sinF0 y) (some cHalf) = b2) (hb : (b1 || b2) = false) (e3 : gt64 (sinF0 y) (some cQuar) = false) :
    Calls Try.prog 116 #[.float .f64 y] w (RetF .f64 (ser (opO .mul .f64 (sinF0 y) (some c2pi))) w) := by
  have hcv := conv0 h
  have hy2 := fv64c hy (abx h)
  have e00 := sub_self64 h
  have ho1 := ord_lt (c := 4841369599423283200) (abx h) (by rw [ab64]; rfl) h (by decide) (by decide)
  have ho2 := ord_gt (c := 14064741636278059008) (abx h) (by rw [ab64]; rfl) h (by decide) (by decide)
  have h0 := fqi 0
  have k1 := fqh; have k2 := fqp; have k3 := fq1
  clear h
  have E00 := Lib.hid e00; clear e00
  cases b1 <;> cases b2 <;> simp only [Bool.or_self, Bool.or_true, Bool.true_or, Bool.false_eq_true, Bool.true_eq_false] at hb
  all_goals
    go_enter Try.func116, Try.ntmps116
    go_wp2_with (first | (with_reducible_and_instances refine Lo.wpList_fo _ rfl .sub _ _ _ _ rfl _ _ _ _ _ rfl rfl rfl hy2 hy2 ?_; intro r0 n0 hr0; rw [E00.out] at hr0; have g0 := ord_fv hr0 fqz; rw [ord00] at g0) | (with_reducible_and_instances refine Lo.wpList_fo _ rfl .sub _ _ _ _ rfl _ _ _ _ _ rfl rfl rfl hy2 h0 ?_; intro r1 n1 hr1; have gl := lt64_fv hr1 fqz; rw [show opO .sub .f64 (some y) (some (floatOfInt .f64 0)) = sinF0 y from rfl] at hr1 gl; rw [el] at gl; have g1 := gt64_fv hr1 fqh; have g2 := eq64_fv hr1 fqh; rw [h1] at g1; rw [h2] at g2; have g3 := gt64_fv hr1 fqq; rw [e3] at g3) | (with_reducible_and_instances refine Lo.wpList_fo _ rfl .mul _ _ _ _ rfl _ _ _ _ _ rfl rfl rfl hr1 k2 ?_; intro rz nz hz) | (with_reducible_and_instances refine Lo.wpList_fo _ rfl .mul _ _ _ _ rfl _ _ _ _ _ rfl rfl rfl hz hz ?_; intro ru nu hu))
    generalize hZ : opO .mul .f64 (sinF0 y) (some c2pi) = Z at *
    clear hZ
    go_loopw [7, 8] (fun p kk wr => ∃ (k m r : Nat), k ≤ 8 ∧ kk = .int .i64 k ∧ p = .float .f64 r ∧ Hid (Fv .f64 r (sinP (opO .mul .f64 Z Z) (8 - k))) ∧ wr = w.drewN m) (fun _ kk _ => (intOf kk).toNat)
    case atStart => exact ⟨8, _, _, Nat.le_refl _, rfl, rfl, fq1, rfl⟩
    case round =>
      obtain ⟨k, m, r, hk, rfl, rfl, hr, rfl⟩ := hrel
      by_cases hlt : 1 ≤ k
      · obtain ⟨M, hM⟩ : ∃ M, 2 * k * (2 * k + 1) = M := ⟨_, rfl⟩
        have hM2 : 2 * (k : Int) * (2 * (k : Int) + 1) = (M : Int) := by rw [← hM]; push_cast; rfl
        have hMb : M ≤ 272 := by rw [← hM]; exact Nat.mul_le_mul (show 2 * k ≤ 16 by omega) (show 2 * k + 1 ≤ 17 by omega)
        have hi := fqi (M : Int)
        have eK : Hid (sinP (opO .mul .f64 Z Z) (8 - (k - 1)) = opO .sub .f64 (some cOne) (opO .quo .f64 (opO .mul .f64 (opO .mul .f64 Z Z) (sinP (opO .mul .f64 Z Z) (8 - k))) (some (floatOfInt .f64 (M : Int))))) := Lib.hid (by
          rw [show 8 - (k - 1) = (8 - k) + 1 by omega, ← hM, ← sinK_of (by omega)]; rfl)
        clear hM
        go_wp2_with (with_reducible_and_instances refine Lo.wpList_fo _ rfl _ _ _ _ _ rfl _ _ _ _ _ rfl rfl rfl (by assumption) (by assumption) ?_; intro rr nn hrr)
        rw [← eK.out] at hrr
        go_roundw
        case rel => exact ⟨k - 1, _, _, by omega, by go_num, rfl, hrr, rfl⟩
        case measure => simp [intOf]; omega
      · obtain rfl : k = 0 := by omega
        rw [show ((0 : Nat) : Int) = 0 from rfl]
        go_wp2_with (with_reducible_and_instances refine Lo.wpList_fo _ rfl _ _ _ _ _ rfl _ _ _ _ _ rfl rfl rfl (by assumption) (by assumption) ?_; intro rr nn hrr)
        go_ret
        exact ⟨_, _, rfl, hrr.out, rfl⟩
set_option maxHeartbeats 8000000 in
set_option maxRecDepth 100000 in
theorem specSine_001 (y : Nat) (w : World) (hy : y < 18446744073709551616) (h : rung .f64 y < rung .f64 cOne) (b1 b2 : Bool) (el : lt64 (sinF0 y) (some 0) = false) (h1 : gt64 (sinF0 y) (some cHalf) = b1) (h2 : eq64 (sinF0 y) (some cHalf) = b2) (hb : (b1 || b2) = false) (e3 : gt64 (sinF0 y) (some cQuar) = true) :
    Calls Try.prog 116 #[.float .f64 y] w (RetF .f64 (ser (opO .mul .f64 (opO .sub .f64 (some cHalf) (sinF0 y)) (some c2pi))) w) := by
  have hcv := conv0 h
  have hy2 := fv64c hy (abx h)
  have e00 := sub_self64 h
  have ho1 := ord_lt (c := 4841369599423283200) (abx h) (by rw [ab64]; rfl) h (by decide) (by decide)
  have ho2 := ord_gt (c := 14064741636278059008) (abx h) (by rw [ab64]; rfl) h (by decide) (by decide)
  have h0 := fqi 0
  have k1 := fqh; have k2 := fqp; have k3 := fq1
  clear h
  have E00 := Lib.hid e00; clear e00
  cases b1 <;> cases b2 <;> simp only [Bool.or_self, Bool.or_true, Bool.true_or, Bool.false_eq_true, Bool.true_eq_false] at hb
  all_goals
    go_enter Try.func116, Try.ntmps116
    go_wp2_with (first | (with_reducible_and_instances refine Lo.wpList_fo _ rfl .sub _ _ _ _ rfl _ _ _ _ _ rfl rfl rfl hy2 hy2 ?_; intro r0 n0 hr0; rw [E00.out] at hr0; have g0 := ord_fv hr0 fqz; rw [ord00] at g0) | (with_reducible_and_instances refine Lo.wpList_fo _ rfl .sub _ _ _ _ rfl _ _ _ _ _ rfl rfl rfl hy2 h0 ?_; intro r1 n1 hr1; have gl := lt64_fv hr1 fqz; rw [show opO .sub .f64 (some y) (some (floatOfInt .f64 0)) = sinF0 y from rfl] at hr1 gl; rw [el] at gl; have g1 := gt64_fv hr1 fqh; have g2 := eq64_fv hr1 fqh; rw [h1] at g1; rw [h2] at g2; have g3 := gt64_fv hr1 fqq; rw [e3] at g3) | (with_reducible_and_instances refine Lo.wpList_fo _ rfl .sub _ _ _ _ rfl _ _ _ _ _ rfl rfl rfl k1 hr1 ?_; intro r4 n4 hr4) | (with_reducible_and_instances refine Lo.wpList_fo _ rfl .mul _ _ _ _ rfl _ _ _ _ _ rfl rfl rfl hr4 k2 ?_; intro rz nz hz) | (with_reducible_and_instances refine Lo.wpList_fo _ rfl .mul _ _ _ _ rfl _ _ _ _ _ rfl rfl rfl hz hz ?_; intro ru nu hu))
    generalize hZ : opO .mul .f64 (opO .sub .f64 (some cHalf) (sinF0 y)) (some c2pi) = Z at *
    clear hZ
    go_loopw [7, 8] (fun p kk wr => ∃ (k m r : Nat), k ≤ 8 ∧ kk = .int .i64 k ∧ p = .float .f64 r ∧ Hid (Fv .f64 r (sinP (opO .mul .f64 Z Z) (8 - k))) ∧ wr = w.drewN m) (fun _ kk _ => (intOf kk).toNat)
    case atStart => exact ⟨8, _, _, Nat.le_refl _, rfl, rfl, fq1, rfl⟩
    case round =>
      obtain ⟨k, m, r, hk, rfl, rfl, hr, rfl⟩ := hrel
      by_cases hlt : 1 ≤ k
      · obtain ⟨M, hM⟩ : ∃ M, 2 * k * (2 * k + 1) = M := ⟨_, rfl⟩
        have hM2 : 2 * (k : Int) * (2 * (k : Int) + 1) = (M : Int) := by rw [← hM]; push_cast; rfl
        have hMb : M ≤ 272 := by rw [← hM]; exact Nat.mul_le_mul (show 2 * k ≤ 16 by omega) (show 2 * k + 1 ≤ 17 by omega)
        have hi := fqi (M : Int)
        have eK : Hid (sinP (opO .mul .f64 Z Z) (8 - (k - 1)) = opO .sub .f64 (some cOne) (opO .quo .f64 (opO .mul .f64 (opO .mul .f64 Z Z) (sinP (opO .mul .f64 Z Z) (8 - k))) (some (floatOfInt .f64 (M : Int))))) := Lib.hid (by
          rw [show 8 - (k - 1) = (8 - k) + 1 by omega, ← hM, ← sinK_of (by omega)]; rfl)
        clear hM
        go_wp2_with (with_reducible_and_instances refine Lo.wpList_fo _ rfl _ _ _ _ _ rfl _ _ _ _ _ rfl rfl rfl (by assumption) (by assumption) ?_; intro rr nn hrr)
        rw [← eK.out] at hrr
        go_roundw
        case rel => exact ⟨k - 1, _, _, by omega, by go_num, rfl, hrr, rfl⟩
        case measure => simp [intOf]; omega
      · obtain rfl : k = 0 := by omega
        rw [show ((0 : Nat) : Int) = 0 from rfl]
        go_wp2_with (with_reducible_and_instances refine Lo.wpList_fo _ rfl _ _ _ _ _ rfl _ _ _ _ _ rfl rfl rfl (by assumption) (by assumption) ?_; intro rr nn hrr)
        go_ret
        exact ⟨_, _, rfl, hrr.out, rfl⟩
set_option maxHeartbeats 8000000 in
set_option maxRecDepth 100000 in
theorem specSine_010 (y : Nat) (w : World) (hy : y < 18446744073709551616) (h : rung .f64 y < rung .f64 cOne) (b1 b2 : Bool) (el : lt64 (sinF0 y) (some 0) = false) (h1 : gt64 (sinF0 y) (some cHalf) = b1) (h2 : eq64 (sinF0 y) (some cHalf) = b2) (hb : (b1 || b2) = true) (e3 : gt64 (opO .sub .f64 (sinF0 y) (some cHalf)) (some cQuar) = false) :
    Calls Try.prog 116 #[.float .f64 y] w (RetF .f64 ((ser (opO .mul .f64 (opO .sub .f64 (sinF0 y) (some cHalf)) (some c2pi))).map (Op.negFloat .f64)) w) := by
  have hcv := conv0 h
  have hy2 := fv64c hy (abx h)
  have e00 := sub_self64 h
  have ho1 := ord_lt (c := 4841369599423283200) (abx h) (by rw [ab64]; rfl) h (by decide) (by decide)
  have ho2 := ord_gt (c := 14064741636278059008) (abx h) (by rw [ab64]; rfl) h (by decide) (by decide)
  have h0 := fqi 0
  have k1 := fqh; have k2 := fqp; have k3 := fq1
  clear h
  have E00 := Lib.hid e00; clear e00
  cases b1 <;> cases b2 <;> simp only [Bool.or_self, Bool.or_true, Bool.true_or, Bool.false_eq_true, Bool.true_eq_false] at hb
  all_goals
    go_enter Try.func116, Try.ntmps116
    go_wp2_with (first | (with_reducible_and_instances refine Lo.wpList_fo _ rfl .sub _ _ _ _ rfl _ _ _ _ _ rfl rfl rfl hy2 hy2 ?_; intro r0 n0 hr0; rw [E00.out] at hr0; have g0 := ord_fv hr0 fqz; rw [ord00] at g0) | (with_reducible_and_instances refine Lo.wpList_fo _ rfl .sub _ _ _ _ rfl _ _ _ _ _ rfl rfl rfl hy2 h0 ?_; intro r1 n1 hr1; have gl := lt64_fv hr1 fqz; rw [show opO .sub .f64 (some y) (some (floatOfInt .f64 0)) = sinF0 y from rfl] at hr1 gl; rw [el] at gl; have g1 := gt64_fv hr1 fqh; have g2 := eq64_fv hr1 fqh; rw [h1] at g1; rw [h2] at g2) | (with_reducible_and_instances refine Lo.wpList_fo _ rfl .sub _ _ _ _ rfl _ _ _ _ _ rfl rfl rfl hr1 k1 ?_; intro r3 n3 hr3; have g3 := gt64_fv hr3 fqq; rw [e3] at g3) | (with_reducible_and_instances refine Lo.wpList_fo _ rfl .mul _ _ _ _ rfl _ _ _ _ _ rfl rfl rfl hr3 k2 ?_; intro rz nz hz) | (with_reducible_and_instances refine Lo.wpList_fo _ rfl .mul _ _ _ _ rfl _ _ _ _ _ rfl rfl rfl hz hz ?_; intro ru nu hu))
    generalize hZ : opO .mul .f64 (opO .sub .f64 (sinF0 y) (some cHalf)) (some c2pi) = Z at *
    clear hZ
    go_loopw [7, 8] (fun p kk wr => ∃ (k m r : Nat), k ≤ 8 ∧ kk = .int .i64 k ∧ p = .float .f64 r ∧ Hid (Fv .f64 r (sinP (opO .mul .f64 Z Z) (8 - k))) ∧ wr = w.drewN m) (fun _ kk _ => (intOf kk).toNat)
    case atStart => exact ⟨8, _, _, Nat.le_refl _, rfl, rfl, fq1, rfl⟩
    case round =>
      obtain ⟨k, m, r, hk, rfl, rfl, hr, rfl⟩ := hrel
      by_cases hlt : 1 ≤ k
      · obtain ⟨M, hM⟩ : ∃ M, 2 * k * (2 * k + 1) = M := ⟨_, rfl⟩
        have hM2 : 2 * (k : Int) * (2 * (k : Int) + 1) = (M : Int) := by rw [← hM]; push_cast; rfl
        have hMb : M ≤ 272 := by rw [← hM]; exact Nat.mul_le_mul (show 2 * k ≤ 16 by omega) (show 2 * k + 1 ≤ 17 by omega)
        have hi := fqi (M : Int)
        have eK : Hid (sinP (opO .mul .f64 Z Z) (8 - (k - 1)) = opO .sub .f64 (some cOne) (opO .quo .f64 (opO .mul .f64 (opO .mul .f64 Z Z) (sinP (opO .mul .f64 Z Z) (8 - k))) (some (floatOfInt .f64 (M : Int))))) := Lib.hid (by
          rw [show 8 - (k - 1) = (8 - k) + 1 by omega, ← hM, ← sinK_of (by omega)]; rfl)
        clear hM
        go_wp2_with (with_reducible_and_instances refine Lo.wpList_fo _ rfl _ _ _ _ _ rfl _ _ _ _ _ rfl rfl rfl (by assumption) (by assumption) ?_; intro rr nn hrr)
        rw [← eK.out] at hrr
        go_roundw
        case rel => exact ⟨k - 1, _, _, by omega, by go_num, rfl, hrr, rfl⟩
        case measure => simp [intOf]; omega
      · obtain rfl : k = 0 := by omega
        rw [show ((0 : Nat) : Int) = 0 from rfl]
        go_wp2_with (with_reducible_and_instances refine Lo.wpList_fo _ rfl _ _ _ _ _ rfl _ _ _ _ _ rfl rfl rfl (by assumption) (by assumption) ?_; intro rr nn hrr)
        go_ret
        exact ⟨_, _, rfl, (neg64_fv hrr).out, rfl⟩
set_option maxHeartbeats 8000000 in
set_option maxRecDepth 100000 in
theorem specSine_011 (y : Nat) (w : World) (hy : y < 18446744073709551616) (h : rung .f64 y < rung .f64 cOne) (b1 b2 : Bool) (el : lt64 (sinF0 y) (some 0) = false) (h1 : gt64 (sinF0 y) (some cHalf) = b1) (h2 : eq64 (sinF0 y) (some cHalf) = b2) (hb : (b1 || b2) = true) (e3 : gt64 (opO .sub .f64 (sinF0 y) (some cHalf)) (some cQuar) = true) :
    Calls Try.prog 116 #[.float .f64 y] w (RetF .f64 ((ser (opO .mul .f64 (opO .sub .f64 (some cHalf) (opO .sub .f64 (sinF0 y) (some cHalf))) (some c2pi))).map (Op.negFloat .f64)) w) := by
  have hcv := conv0 h
  have hy2 := fv64c hy (abx h)
  have e00 := sub_self64 h
  have ho1 := ord_lt (c := 4841369599423283200) (abx h) (by rw [ab64]; rfl) h (by decide) (by decide)
  have ho2 := ord_gt (c := 14064741636278059008) (abx h) (by rw [ab64]; rfl) h (by decide) (by decide)
  have h0 := fqi 0
  have k1 := fqh; have k2 := fqp; have k3 := fq1
  clear h
  have E00 := Lib.hid e00; clear e00
  cases b1 <;> cases b2 <;> simp only [Bool.or_self, Bool.or_true, Bool.true_or, Bool.false_eq_true, Bool.true_eq_false] at hb
  all_goals
    go_enter Try.func116, Try.ntmps116
    go_wp2_with (first | (with_reducible_and_instances refine Lo.wpList_fo _ rfl .sub _ _ _ _ rfl _ _ _ _ _ rfl rfl rfl hy2 hy2 ?_; intro r0 n0 hr0; rw [E00.out] at hr0; have g0 := ord_fv hr0 fqz; rw [ord00] at g0) | (with_reducible_and_instances refine Lo.wpList_fo _ rfl .sub _ _ _ _ rfl _ _ _ _ _ rfl rfl rfl hy2 h0 ?_; intro r1 n1 hr1; have gl := lt64_fv hr1 fqz; rw [show opO .sub .f64 (some y) (some (floatOfInt .f64 0)) = sinF0 y from rfl] at hr1 gl; rw [el] at gl; have g1 := gt64_fv hr1 fqh; have g2 := eq64_fv hr1 fqh; rw [h1] at g1; rw [h2] at g2) | (with_reducible_and_instances refine Lo.wpList_fo _ rfl .sub _ _ _ _ rfl _ _ _ _ _ rfl rfl rfl hr1 k1 ?_; intro r3 n3 hr3; have g3 := gt64_fv hr3 fqq; rw [e3] at g3) | (with_reducible_and_instances refine Lo.wpList_fo _ rfl .sub _ _ _ _ rfl _ _ _ _ _ rfl rfl rfl k1 hr3 ?_; intro r4 n4 hr4) | (with_reducible_and_instances refine Lo.wpList_fo _ rfl .mul _ _ _ _ rfl _ _ _ _ _ rfl rfl rfl hr4 k2 ?_; intro rz nz hz) | (with_reducible_and_instances refine Lo.wpList_fo _ rfl .mul _ _ _ _ rfl _ _ _ _ _ rfl rfl rfl hz hz ?_; intro ru nu hu))
    generalize hZ : opO .mul .f64 (opO .sub .f64 (some cHalf) (opO .sub .f64 (sinF0 y) (some cHalf))) (some c2pi) = Z at *
    clear hZ
    go_loopw [7, 8] (fun p kk wr => ∃ (k m r : Nat), k ≤ 8 ∧ kk = .int .i64 k ∧ p = .float .f64 r ∧ Hid (Fv .f64 r (sinP (opO .mul .f64 Z Z) (8 - k))) ∧ wr = w.drewN m) (fun _ kk _ => (intOf kk).toNat)
    case atStart => exact ⟨8, _, _, Nat.le_refl _, rfl, rfl, fq1, rfl⟩
    case round =>
      obtain ⟨k, m, r, hk, rfl, rfl, hr, rfl⟩ := hrel
      by_cases hlt : 1 ≤ k
      · obtain ⟨M, hM⟩ : ∃ M, 2 * k * (2 * k + 1) = M := ⟨_, rfl⟩
        have hM2 : 2 * (k : Int) * (2 * (k : Int) + 1) = (M : Int) := by rw [← hM]; push_cast; rfl
        have hMb : M ≤ 272 := by rw [← hM]; exact Nat.mul_le_mul (show 2 * k ≤ 16 by omega) (show 2 * k + 1 ≤ 17 by omega)
        have hi := fqi (M : Int)
        have eK : Hid (sinP (opO .mul .f64 Z Z) (8 - (k - 1)) = opO .sub .f64 (some cOne) (opO .quo .f64 (opO .mul .f64 (opO .mul .f64 Z Z) (sinP (opO .mul .f64 Z Z) (8 - k))) (some (floatOfInt .f64 (M : Int))))) := Lib.hid (by
          rw [show 8 - (k - 1) = (8 - k) + 1 by omega, ← hM, ← sinK_of (by omega)]; rfl)
        clear hM
        go_wp2_with (with_reducible_and_instances refine Lo.wpList_fo _ rfl _ _ _ _ _ rfl _ _ _ _ _ rfl rfl rfl (by assumption) (by assumption) ?_; intro rr nn hrr)
        rw [← eK.out] at hrr
        go_roundw
        case rel => exact ⟨k - 1, _, _, by omega, by go_num, rfl, hrr, rfl⟩
        case measure => simp [intOf]; omega
      · obtain rfl : k = 0 := by omega
        rw [show ((0 : Nat) : Int) = 0 from rfl]
        go_wp2_with (with_reducible_and_instances refine Lo.wpList_fo _ rfl _ _ _ _ _ rfl _ _ _ _ _ rfl rfl rfl (by assumption) (by assumption) ?_; intro rr nn hrr)
        go_ret
        exact ⟨_, _, rfl, (neg64_fv hrr).out, rfl⟩
set_option maxHeartbeats 8000000 in
set_option maxRecDepth 100000 in
theorem specSine_100 (y : Nat) (w : World) (hy : y < 18446744073709551616) (h : rung .f64 y < rung .f64 cOne) (b1 b2 : Bool) (el : lt64 (sinF0 y) (some 0) = true) (h1 : gt64 (opO .add .f64 (sinF0 y) (some cOne)) (some cHalf) = b1) (h2 : eq64 (opO .add .f64 (sinF0 y) (some cOne)) (some cHalf) = b2) (hb : (b1 || b2) = false) (e3 : gt64 (opO .add .f64 (sinF0 y) (some cOne)) (some cQuar) = false) :
    Calls Try.prog 116 #[.float .f64 y] w (RetF .f64 (ser (opO .mul .f64 (opO .add .f64 (sinF0 y) (some cOne)) (some c2pi))) w) := by
  have hcv := conv0 h
  have hy2 := fv64c hy (abx h)
  have e00 := sub_self64 h
  have ho1 := ord_lt (c := 4841369599423283200) (abx h) (by rw [ab64]; rfl) h (by decide) (by decide)
  have ho2 := ord_gt (c := 14064741636278059008) (abx h) (by rw [ab64]; rfl) h (by decide) (by decide)
  have h0 := fqi 0
  have k1 := fqh; have k2 := fqp; have k3 := fq1
  clear h
  have E00 := Lib.hid e00; clear e00
  cases b1 <;> cases b2 <;> simp only [Bool.or_self, Bool.or_true, Bool.true_or, Bool.false_eq_true, Bool.true_eq_false] at hb
  all_goals
    go_enter Try.func116, Try.ntmps116
    go_wp2_with (first | (with_reducible_and_instances refine Lo.wpList_fo _ rfl .sub _ _ _ _ rfl _ _ _ _ _ rfl rfl rfl hy2 hy2 ?_; intro r0 n0 hr0; rw [E00.out] at hr0; have g0 := ord_fv hr0 fqz; rw [ord00] at g0) | (with_reducible_and_instances refine Lo.wpList_fo _ rfl .sub _ _ _ _ rfl _ _ _ _ _ rfl rfl rfl hy2 h0 ?_; intro r1 n1 hr1; have gl := lt64_fv hr1 fqz; rw [show opO .sub .f64 (some y) (some (floatOfInt .f64 0)) = sinF0 y from rfl] at hr1 gl; rw [el] at gl) | (with_reducible_and_instances refine Lo.wpList_fo _ rfl .add _ _ _ _ rfl _ _ _ _ _ rfl rfl rfl hr1 k3 ?_; intro r2 n2 hr2; have g1 := gt64_fv hr2 fqh; have g2 := eq64_fv hr2 fqh; rw [h1] at g1; rw [h2] at g2; have g3 := gt64_fv hr2 fqq; rw [e3] at g3) | (with_reducible_and_instances refine Lo.wpList_fo _ rfl .mul _ _ _ _ rfl _ _ _ _ _ rfl rfl rfl hr2 k2 ?_; intro rz nz hz) | (with_reducible_and_instances refine Lo.wpList_fo _ rfl .mul _ _ _ _ rfl _ _ _ _ _ rfl rfl rfl hz hz ?_; intro ru nu hu))
    generalize hZ : opO .mul .f64 (opO .add .f64 (sinF0 y) (some cOne)) (some c2pi) = Z at *
    clear hZ
    go_loopw [7, 8] (fun p kk wr => ∃ (k m r : Nat), k ≤ 8 ∧ kk = .int .i64 k ∧ p = .float .f64 r ∧ Hid (Fv .f64 r (sinP (opO .mul .f64 Z Z) (8 - k))) ∧ wr = w.drewN m) (fun _ kk _ => (intOf kk).toNat)
    case atStart => exact ⟨8, _, _, Nat.le_refl _, rfl, rfl, fq1, rfl⟩
    case round =>
      obtain ⟨k, m, r, hk, rfl, rfl, hr, rfl⟩ := hrel
      by_cases hlt : 1 ≤ k
      · obtain ⟨M, hM⟩ : ∃ M, 2 * k * (2 * k + 1) = M := ⟨_, rfl⟩
        have hM2 : 2 * (k : Int) * (2 * (k : Int) + 1) = (M : Int) := by rw [← hM]; push_cast; rfl
        have hMb : M ≤ 272 := by rw [← hM]; exact Nat.mul_le_mul (show 2 * k ≤ 16 by omega) (show 2 * k + 1 ≤ 17 by omega)
        have hi := fqi (M : Int)
        have eK : Hid (sinP (opO .mul .f64 Z Z) (8 - (k - 1)) = opO .sub .f64 (some cOne) (opO .quo .f64 (opO .mul .f64 (opO .mul .f64 Z Z) (sinP (opO .mul .f64 Z Z) (8 - k))) (some (floatOfInt .f64 (M : Int))))) := Lib.hid (by
          rw [show 8 - (k - 1) = (8 - k) + 1 by omega, ← hM, ← sinK_of (by omega)]; rfl)
        clear hM
        go_wp2_with (with_reducible_and_instances refine Lo.wpList_fo _ rfl _ _ _ _ _ rfl _ _ _ _ _ rfl rfl rfl (by assumption) (by assumption) ?_; intro rr nn hrr)
        rw [← eK.out] at hrr
        go_roundw
        case rel => exact ⟨k - 1, _, _, by omega, by go_num, rfl, hrr, rfl⟩
        case measure => simp [intOf]; omega
      · obtain rfl : k = 0 := by omega
        rw [show ((0 : Nat) : Int) = 0 from rfl]
        go_wp2_with (with_reducible_and_instances refine Lo.wpList_fo _ rfl _ _ _ _ _ rfl _ _ _ _ _ rfl rfl rfl (by assumption) (by assumption) ?_; intro rr nn hrr)
        go_ret
        exact ⟨_, _, rfl, hrr.out, rfl⟩
set_option maxHeartbeats 8000000 in
set_option maxRecDepth 100000 in
theorem specSine_101 (y : Nat) (w : World) (hy : y < 18446744073709551616) (h : rung .f64 y < rung .f64 cOne) (b1 b2 : Bool) (el : lt64 (sinF0 y) (some 0) = true) (h1 : gt64 (opO .add .f64 (sinF0 y) (some cOne)) (some cHalf) = b1) (h2 : eq64 (opO .add .f64 (sinF0 y) (some cOne)) (some cHalf) = b2) (hb : (b1 || b2) = false) (e3 : gt64 (opO .add .f64 (sinF0 y) (some cOne)) (some cQuar) = true) :
    Calls Try.prog 116 #[.float .f64 y] w (RetF .f64 (ser (opO .mul .f64 (opO .sub .f64 (some cHalf) (opO .add .f64 (sinF0 y) (some cOne))) (some c2pi))) w) := by
  have hcv := conv0 h
  have hy2 := fv64c hy (abx h)
  have e00 := sub_self64 h
  have ho1 := ord_lt (c := 4841369599423283200) (abx h) (by rw [ab64]; rfl) h (by decide) (by decide)
  have ho2 := ord_gt (c := 14064741636278059008) (abx h) (by rw [ab64]; rfl) h (by decide) (by decide)
  have h0 := fqi 0
  have k1 := fqh; have k2 := fqp; have k3 := fq1
  clear h
  have E00 := Lib.hid e00; clear e00
  cases b1 <;> cases b2 <;> simp only [Bool.or_self, Bool.or_true, Bool.true_or, Bool.false_eq_true, Bool.true_eq_false] at hb
  all_goals
    go_enter Try.func116, Try.ntmps116
    go_wp2_with (first | (with_reducible_and_instances refine Lo.wpList_fo _ rfl .sub _ _ _ _ rfl _ _ _ _ _ rfl rfl rfl hy2 hy2 ?_; intro r0 n0 hr0; rw [E00.out] at hr0; have g0 := ord_fv hr0 fqz; rw [ord00] at g0) | (with_reducible_and_instances refine Lo.wpList_fo _ rfl .sub _ _ _ _ rfl _ _ _ _ _ rfl rfl rfl hy2 h0 ?_; intro r1 n1 hr1; have gl := lt64_fv hr1 fqz; rw [show opO .sub .f64 (some y) (some (floatOfInt .f64 0)) = sinF0 y from rfl] at hr1 gl; rw [el] at gl) | (with_reducible_and_instances refine Lo.wpList_fo _ rfl .add _ _ _ _ rfl _ _ _ _ _ rfl rfl rfl hr1 k3 ?_; intro r2 n2 hr2; have g1 := gt64_fv hr2 fqh; have g2 := eq64_fv hr2 fqh; rw [h1] at g1; rw [h2] at g2; have g3 := gt64_fv hr2 fqq; rw [e3] at g3) | (with_reducible_and_instances refine Lo.wpList_fo _ rfl .sub _ _ _ _ rfl _ _ _ _ _ rfl rfl rfl k1 hr2 ?_; intro r4 n4 hr4) | (with_reducible_and_instances refine Lo.wpList_fo _ rfl .mul _ _ _ _ rfl _ _ _ _ _ rfl rfl rfl hr4 k2 ?_; intro rz nz hz) | (with_reducible_and_instances refine Lo.wpList_fo _ rfl .mul _ _ _ _ rfl _ _ _ _ _ rfl rfl rfl hz hz ?_; intro ru nu hu))
    generalize hZ : opO .mul .f64 (opO .sub .f64 (some cHalf) (opO .add .f64 (sinF0 y) (some cOne))) (some c2pi) = Z at *
    clear hZ
    go_loopw [7, 8] (fun p kk wr => ∃ (k m r : Nat), k ≤ 8 ∧ kk = .int .i64 k ∧ p = .float .f64 r ∧ Hid (Fv .f64 r (sinP (opO .mul .f64 Z Z) (8 - k))) ∧ wr = w.drewN m) (fun _ kk _ => (intOf kk).toNat)
    case atStart => exact ⟨8, _, _, Nat.le_refl _, rfl, rfl, fq1, rfl⟩
    case round =>
      obtain ⟨k, m, r, hk, rfl, rfl, hr, rfl⟩ := hrel
      by_cases hlt : 1 ≤ k
      · obtain ⟨M, hM⟩ : ∃ M, 2 * k * (2 * k + 1) = M := ⟨_, rfl⟩
        have hM2 : 2 * (k : Int) * (2 * (k : Int) + 1) = (M : Int) := by rw [← hM]; push_cast; rfl
        have hMb : M ≤ 272 := by rw [← hM]; exact Nat.mul_le_mul (show 2 * k ≤ 16 by omega) (show 2 * k + 1 ≤ 17 by omega)
        have hi := fqi (M : Int)
        have eK : Hid (sinP (opO .mul .f64 Z Z) (8 - (k - 1)) = opO .sub .f64 (some cOne) (opO .quo .f64 (opO .mul .f64 (opO .mul .f64 Z Z) (sinP (opO .mul .f64 Z Z) (8 - k))) (some (floatOfInt .f64 (M : Int))))) := Lib.hid (by
          rw [show 8 - (k - 1) = (8 - k) + 1 by omega, ← hM, ← sinK_of (by omega)]; rfl)
        clear hM
        go_wp2_with (with_reducible_and_instances refine Lo.wpList_fo _ rfl _ _ _ _ _ rfl _ _ _ _ _ rfl rfl rfl (by assumption) (by assumption) ?_; intro rr nn hrr)
        rw [← eK.out] at hrr
        go_roundw
        case rel => exact ⟨k - 1, _, _, by omega, by go_num, rfl, hrr, rfl⟩
        case measure => simp [intOf]; omega
      · obtain rfl : k = 0 := by omega
        rw [show ((0 : Nat) : Int) = 0 from rfl]
        go_wp2_with (with_reducible_and_instances refine Lo.wpList_fo _ rfl _ _ _ _ _ rfl _ _ _ _ _ rfl rfl rfl (by assumption) (by assumption) ?_; intro rr nn hrr)
        go_ret
        exact ⟨_, _, rfl, hrr.out, rfl⟩
set_option maxHeartbeats 8000000 in
set_option maxRecDepth 100000 in
theorem specSine_110 (y : Nat) (w : World) (hy : y < 18446744073709551616) (h : rung .f64 y < rung .f64 cOne) (b1 b2 : Bool) (el : lt64 (sinF0 y) (some 0) = true) (h1 : gt64 (opO .add .f64 (sinF0 y) (some cOne)) (some cHalf) = b1) (h2 : eq64 (opO .add .f64 (sinF0 y) (some cOne)) (some cHalf) = b2) (hb : (b1 || b2) = true) (e3 : gt64 (opO .sub .f64 (opO .add .f64 (sinF0 y) (some cOne)) (some cHalf)) (some cQuar) = false) :
    Calls Try.prog 116 #[.float .f64 y] w (RetF .f64 ((ser (opO .mul .f64 (opO .sub .f64 (opO .add .f64 (sinF0 y) (some cOne)) (some cHalf)) (some c2pi))).map (Op.negFloat .f64)) w) := by
  have hcv := conv0 h
  have hy2 := fv64c hy (abx h)
  have e00 := sub_self64 h
  have ho1 := ord_lt (c := 4841369599423283200) (abx h) (by rw [ab64]; rfl) h (by decide) (by decide)
  have ho2 := ord_gt (c := 14064741636278059008) (abx h) (by rw [ab64]; rfl) h (by decide) (by decide)
  have h0 := fqi 0
  have k1 := fqh; have k2 := fqp; have k3 := fq1
  clear h
  have E00 := Lib.hid e00; clear e00
  cases b1 <;> cases b2 <;> simp only [Bool.or_self, Bool.or_true, Bool.true_or, Bool.false_eq_true, Bool.true_eq_false] at hb
  all_goals
    go_enter Try.func116, Try.ntmps116
    go_wp2_with (first | (with_reducible_and_instances refine Lo.wpList_fo _ rfl .sub _ _ _ _ rfl _ _ _ _ _ rfl rfl rfl hy2 hy2 ?_; intro r0 n0 hr0; rw [E00.out] at hr0; have g0 := ord_fv hr0 fqz; rw [ord00] at g0) | (with_reducible_and_instances refine Lo.wpList_fo _ rfl .sub _ _ _ _ rfl _ _ _ _ _ rfl rfl rfl hy2 h0 ?_; intro r1 n1 hr1; have gl := lt64_fv hr1 fqz; rw [show opO .sub .f64 (some y) (some (floatOfInt .f64 0)) = sinF0 y from rfl] at hr1 gl; rw [el] at gl) | (with_reducible_and_instances refine Lo.wpList_fo _ rfl .add _ _ _ _ rfl _ _ _ _ _ rfl rfl rfl hr1 k3 ?_; intro r2 n2 hr2; have g1 := gt64_fv hr2 fqh; have g2 := eq64_fv hr2 fqh; rw [h1] at g1; rw [h2] at g2) | (with_reducible_and_instances refine Lo.wpList_fo _ rfl .sub _ _ _ _ rfl _ _ _ _ _ rfl rfl rfl hr2 k1 ?_; intro r3 n3 hr3; have g3 := gt64_fv hr3 fqq; rw [e3] at g3) | (with_reducible_and_instances refine Lo.wpList_fo _ rfl .mul _ _ _ _ rfl _ _ _ _ _ rfl rfl rfl hr3 k2 ?_; intro rz nz hz) | (with_reducible_and_instances refine Lo.wpList_fo _ rfl .mul _ _ _ _ rfl _ _ _ _ _ rfl rfl rfl hz hz ?_; intro ru nu hu))
    generalize hZ : opO .mul .f64 (opO .sub .f64 (opO .add .f64 (sinF0 y) (some cOne)) (some cHalf)) (some c2pi) = Z at *
    clear hZ
    go_loopw [7, 8] (fun p kk wr => ∃ (k m r : Nat), k ≤ 8 ∧ kk = .int .i64 k ∧ p = .float .f64 r ∧ Hid (Fv .f64 r (sinP (opO .mul .f64 Z Z) (8 - k))) ∧ wr = w.drewN m) (fun _ kk _ => (intOf kk).toNat)
    case atStart => exact ⟨8, _, _, Nat.le_refl _, rfl, rfl, fq1, rfl⟩
    case round =>
      obtain ⟨k, m, r, hk, rfl, rfl, hr, rfl⟩ := hrel
      by_cases hlt : 1 ≤ k
      · obtain ⟨M, hM⟩ : ∃ M, 2 * k * (2 * k + 1) = M := ⟨_, rfl⟩
        have hM2 : 2 * (k : Int) * (2 * (k : Int) + 1) = (M : Int) := by rw [← hM]; push_cast; rfl
        have hMb : M ≤ 272 := by rw [← hM]; exact Nat.mul_le_mul (show 2 * k ≤ 16 by omega) (show 2 * k + 1 ≤ 17 by omega)
        have hi := fqi (M : Int)
        have eK : Hid (sinP (opO .mul .f64 Z Z) (8 - (k - 1)) = opO .sub .f64 (some cOne) (opO .quo .f64 (opO .mul .f64 (opO .mul .f64 Z Z) (sinP (opO .mul .f64 Z Z) (8 - k))) (some (floatOfInt .f64 (M : Int))))) := Lib.hid (by
          rw [show 8 - (k - 1) = (8 - k) + 1 by omega, ← hM, ← sinK_of (by omega)]; rfl)
        clear hM
        go_wp2_with (with_reducible_and_instances refine Lo.wpList_fo _ rfl _ _ _ _ _ rfl _ _ _ _ _ rfl rfl rfl (by assumption) (by assumption) ?_; intro rr nn hrr)
        rw [← eK.out] at hrr
        go_roundw
        case rel => exact ⟨k - 1, _, _, by omega, by go_num, rfl, hrr, rfl⟩
        case measure => simp [intOf]; omega
      · obtain rfl : k = 0 := by omega
        rw [show ((0 : Nat) : Int) = 0 from rfl]
        go_wp2_with (with_reducible_and_instances refine Lo.wpList_fo _ rfl _ _ _ _ _ rfl _ _ _ _ _ rfl rfl rfl (by assumption) (by assumption) ?_; intro rr nn hrr)
        go_ret
        exact ⟨_, _, rfl, (neg64_fv hrr).out, rfl⟩
set_option maxHeartbeats 8000000 in
set_option maxRecDepth 100000 in
theorem specSine_111 (y : Nat) (w : World) (hy : y < 18446744073709551616) (h : rung .f64 y < rung .f64 cOne) (b1 b2 : Bool) (el : lt64 (sinF0 y) (some 0) = true) (h1 : gt64 (opO .add .f64 (sinF0 y) (some cOne)) (some cHalf) = b1) (h2 : eq64 (opO .add .f64 (sinF0 y) (some cOne)) (some cHalf) = b2) (hb : (b1 || b2) = true) (e3 : gt64 (opO .sub .f64 (opO .add .f64 (sinF0 y) (some cOne)) (some cHalf)) (some cQuar) = true) :
    Calls Try.prog 116 #[.float .f64 y] w (RetF .f64 ((ser (opO .mul .f64 (opO .sub .f64 (some cHalf) (opO .sub .f64 (opO .add .f64 (sinF0 y) (some cOne)) (some cHalf))) (some c2pi))).map (Op.negFloat .f64)) w) := by
  have hcv := conv0 h
  have hy2 := fv64c hy (abx h)
  have e00 := sub_self64 h
  have ho1 := ord_lt (c := 4841369599423283200) (abx h) (by rw [ab64]; rfl) h (by decide) (by decide)
  have ho2 := ord_gt (c := 14064741636278059008) (abx h) (by rw [ab64]; rfl) h (by decide) (by decide)
  have h0 := fqi 0
  have k1 := fqh; have k2 := fqp; have k3 := fq1
  clear h
  have E00 := Lib.hid e00; clear e00
  cases b1 <;> cases b2 <;> simp only [Bool.or_self, Bool.or_true, Bool.true_or, Bool.false_eq_true, Bool.true_eq_false] at hb
  all_goals
    go_enter Try.func116, Try.ntmps116
    go_wp2_with (first | (with_reducible_and_instances refine Lo.wpList_fo _ rfl .sub _ _ _ _ rfl _ _ _ _ _ rfl rfl rfl hy2 hy2 ?_; intro r0 n0 hr0; rw [E00.out] at hr0; have g0 := ord_fv hr0 fqz; rw [ord00] at g0) | (with_reducible_and_instances refine Lo.wpList_fo _ rfl .sub _ _ _ _ rfl _ _ _ _ _ rfl rfl rfl hy2 h0 ?_; intro r1 n1 hr1; have gl := lt64_fv hr1 fqz; rw [show opO .sub .f64 (some y) (some (floatOfInt .f64 0)) = sinF0 y from rfl] at hr1 gl; rw [el] at gl) | (with_reducible_and_instances refine Lo.wpList_fo _ rfl .add _ _ _ _ rfl _ _ _ _ _ rfl rfl rfl hr1 k3 ?_; intro r2 n2 hr2; have g1 := gt64_fv hr2 fqh; have g2 := eq64_fv hr2 fqh; rw [h1] at g1; rw [h2] at g2) | (with_reducible_and_instances refine Lo.wpList_fo _ rfl .sub _ _ _ _ rfl _ _ _ _ _ rfl rfl rfl hr2 k1 ?_; intro r3 n3 hr3; have g3 := gt64_fv hr3 fqq; rw [e3] at g3) | (with_reducible_and_instances refine Lo.wpList_fo _ rfl .sub _ _ _ _ rfl _ _ _ _ _ rfl rfl rfl k1 hr3 ?_; intro r4 n4 hr4) | (with_reducible_and_instances refine Lo.wpList_fo _ rfl .mul _ _ _ _ rfl _ _ _ _ _ rfl rfl rfl hr4 k2 ?_; intro rz nz hz) | (with_reducible_and_instances refine Lo.wpList_fo _ rfl .mul _ _ _ _ rfl _ _ _ _ _ rfl rfl rfl hz hz ?_; intro ru nu hu))
    generalize hZ : opO .mul .f64 (opO .sub .f64 (some cHalf) (opO .sub .f64 (opO .add .f64 (sinF0 y) (some cOne)) (some cHalf))) (some c2pi) = Z at *
    clear hZ
    go_loopw [7, 8] (fun p kk wr => ∃ (k m r : Nat), k ≤ 8 ∧ kk = .int .i64 k ∧ p = .float .f64 r ∧ Hid (Fv .f64 r (sinP (opO .mul .f64 Z Z) (8 - k))) ∧ wr = w.drewN m) (fun _ kk _ => (intOf kk).toNat)
    case atStart => exact ⟨8, _, _, Nat.le_refl _, rfl, rfl, fq1, rfl⟩
    case round =>
      obtain ⟨k, m, r, hk, rfl, rfl, hr, rfl⟩ := hrel
      by_cases hlt : 1 ≤ k
      · obtain ⟨M, hM⟩ : ∃ M, 2 * k * (2 * k + 1) = M := ⟨_, rfl⟩
        have hM2 : 2 * (k : Int) * (2 * (k : Int) + 1) = (M : Int) := by rw [← hM]; push_cast; rfl
        have hMb : M ≤ 272 := by rw [← hM]; exact Nat.mul_le_mul (show 2 * k ≤ 16 by omega) (show 2 * k + 1 ≤ 17 by omega)
        have hi := fqi (M : Int)
        have eK : Hid (sinP (opO .mul .f64 Z Z) (8 - (k - 1)) = opO .sub .f64 (some cOne) (opO .quo .f64 (opO .mul .f64 (opO .mul .f64 Z Z) (sinP (opO .mul .f64 Z Z) (8 - k))) (some (floatOfInt .f64 (M : Int))))) := Lib.hid (by
          rw [show 8 - (k - 1) = (8 - k) + 1 by omega, ← hM, ← sinK_of (by omega)]; rfl)
        clear hM
        go_wp2_with (with_reducible_and_instances refine Lo.wpList_fo _ rfl _ _ _ _ _ rfl _ _ _ _ _ rfl rfl rfl (by assumption) (by assumption) ?_; intro rr nn hrr)
        rw [← eK.out] at hrr
        go_roundw
        case rel => exact ⟨k - 1, _, _, by omega, by go_num, rfl, hrr, rfl⟩
        case measure => simp [intOf]; omega
      · obtain rfl : k = 0 := by omega
        rw [show ((0 : Nat) : Int) = 0 from rfl]
        go_wp2_with (with_reducible_and_instances refine Lo.wpList_fo _ rfl _ _ _ _ _ rfl _ _ _ _ _ rfl rfl rfl (by assumption) (by assumption) ?_; intro rr nn hrr)
        go_ret
        exact ⟨_, _, rfl, (neg64_fv hrr).out, rfl⟩
theorem specSineWide_any (y : Nat) (w : World) (hy : y < 18446744073709551616) (h : rung .f64 y < rung .f64 cOne) :
    Calls Try.prog 116 #[.float .f64 y] w (RetF .f64 (sinR (sinF0 y)) w) := by
  cases el : lt64 (sinF0 y) (some 0)
  · have hF : sinF1 (sinF0 y) = (sinF0 y) := by unfold sinF1; rw [el]; rfl
    cases hb : sinB (sinF0 y)
    · rw [sinR_no hF hb]
      have hb2 : (gt64 (sinF0 y) (some cHalf) || eq64 (sinF0 y) (some cHalf)) = false := hb
      cases e3 : gt64 (sinF0 y) (some cQuar)
      · rw [sinF3_no e3]; exact specSine_000 y w hy h _ _ el rfl rfl hb2 e3
      · rw [sinF3_yes e3]; exact specSine_001 y w hy h _ _ el rfl rfl hb2 e3
    · rw [sinR_yes hF hb]
      have hb2 : (gt64 (sinF0 y) (some cHalf) || eq64 (sinF0 y) (some cHalf)) = true := hb
      cases e3 : gt64 (opO .sub .f64 (sinF0 y) (some cHalf)) (some cQuar)
      · rw [sinF3_no e3]; exact specSine_010 y w hy h _ _ el rfl rfl hb2 e3
      · rw [sinF3_yes e3]; exact specSine_011 y w hy h _ _ el rfl rfl hb2 e3
  · have hF : sinF1 (sinF0 y) = (opO .add .f64 (sinF0 y) (some cOne)) := by unfold sinF1; rw [el]; rfl
    cases hb : sinB (opO .add .f64 (sinF0 y) (some cOne))
    · rw [sinR_no hF hb]
      have hb2 : (gt64 (opO .add .f64 (sinF0 y) (some cOne)) (some cHalf) || eq64 (opO .add .f64 (sinF0 y) (some cOne)) (some cHalf)) = false := hb
      cases e3 : gt64 (opO .add .f64 (sinF0 y) (some cOne)) (some cQuar)
      · rw [sinF3_no e3]; exact specSine_100 y w hy h _ _ el rfl rfl hb2 e3
      · rw [sinF3_yes e3]; exact specSine_101 y w hy h _ _ el rfl rfl hb2 e3
    · rw [sinR_yes hF hb]
      have hb2 : (gt64 (opO .add .f64 (sinF0 y) (some cOne)) (some cHalf) || eq64 (opO .add .f64 (sinF0 y) (some cOne)) (some cHalf)) = true := hb
      cases e3 : gt64 (opO .sub .f64 (opO .add .f64 (sinF0 y) (some cOne)) (some cHalf)) (some cQuar)
      · rw [sinF3_no e3]; exact specSine_110 y w hy h _ _ el rfl rfl hb2 e3
      · rw [sinF3_yes e3]; exact specSine_111 y w hy h _ _ el rfl rfl hb2 e3
end Go.Proofs.Ytlodnikboekdpaa

/- SineTurns of phases, of both sides. -/
set_option linter.unusedVariables false
set_option linter.unusedSimpArgs false
namespace Go.Proofs.Ytlodnikboekdpaa
open Fl Go.RowKit Ieee
def wideW (x : Nat) : Nat := FloatKind.f64.encode (FloatKind.f32.decode x)
theorem wide_small {x : Nat} (h : rung .f32 x < rung .f32 1065353216) : rung .f64 (wideW x) < rung .f64 cOne := by
  obtain ⟨D, hD⟩ : ∃ D, D = 925 := ⟨_, rfl⟩
  have h1 := (wide_zv (b := x) (Nat.lt_trans h (by decide)) D hD).2
  have h2 := (wide_zv (b := 1065353216) (by decide) D hD).2
  rw [show FloatKind.f64.encode (FloatKind.f32.decode 1065353216) = cOne by decide +kernel] at h2
  refine (zv_lt .f64).1 ?_
  unfold wideW
  rw [h1, h2]
  exact Nat.mul_lt_mul_of_pos_right ((zv_lt .f32).2 h) (Nat.two_pow_pos D)
theorem turn_small {x : Nat} {X : O} (hx : Fv .f32 x X) (ht : turnB X = true) : X = some x ∧ rung .f32 x < rung .f32 1065353216 := by
  unfold turnB geO at ht
  rw [Bool.and_eq_true] at ht
  obtain ⟨h1, h2⟩ := ht
  cases X with
  | none => cases h2
  | some b =>
    obtain rfl := ab_some hx.2
    refine ⟨rfl, ?_⟩
    have h3 : FloatKind.f32.format.order b 1065353216 = some .lt := by unfold ltO ordO at h2; simpa using h2
    have h4 : FloatKind.f32.format.order b 0 = some .gt ∨ FloatKind.f32.format.order b 0 = some .eq := by unfold gtO eqO ordO at h1; simpa using h1
    have c1 : ab .f32 1065353216 = some 1065353216 := by rw [ab32]; rfl
    have c0 : ab .f32 0 = some 0 := by rw [ab32]; rfl
    rw [order_key .f32 hx.2 c1] at h3
    rw [order_key .f32 hx.2 c0] at h4
    have k1 : key .f32 1065353216 = (rung .f32 1065353216 : Nat) := by decide
    have k0 : key .f32 0 = 0 := by decide
    rw [k1] at h3
    rw [k0] at h4
    have h5 : key .f32 b < ((rung .f32 1065353216 : Nat) : Int) := by
      simp only [compare, compareOfLessAndEq, Option.some.injEq] at h3
      split at h3
      · assumption
      · split at h3 <;> cases h3
    have h6 : 0 ≤ key .f32 b := by
      rcases h4 with h4 | h4
      · simp only [compare, compareOfLessAndEq, Option.some.injEq] at h4
        split at h4
        · cases h4
        · omega
      · simp only [compare, compareOfLessAndEq, Option.some.injEq] at h4
        split at h4
        · cases h4
        · omega
    have h7 : 0 < rung .f32 1065353216 := by decide
    unfold key sg at h5 h6
    split at h5 <;> simp_all <;> omega
def sinX : O → O
  | some b => convO .f64 .f32 (sinR (sinF0 (wideW b)))
  | none => none
set_option maxRecDepth 100000 in
theorem implSineT_any (x : Nat) (X : O) (w : World) (hx : Hid (Fv .f32 x X)) (ht : turnB X = true) :
    Calls Try.prog 140 #[.float .f32 x] w (RetF .f32 (sinX X) w) := by
  obtain ⟨rfl, hs⟩ := turn_small hx.out ht
  have h1 := wide_small hs
  obtain ⟨f, hf, hfb⟩ := sinF0_size h1
  clear ht hs
  go_enter Try.func140, Try.ntmps140
  go_wp2_with (with_reducible_and_instances refine Lo.wpList_wi _ rfl _ _ _ rfl _ _ rfl (by kernel_rfl) (by kernel_rfl) (by assumption) ?_; intro rr nn hrr)
  have h2 : Fv .f64 rr (some (wideW x)) := hrr.out
  obtain rfl := ab_some h2.2
  have h3 := h2.1
  clear h2 hrr
  refine (implSine_any _ _ h3 h1).mono ?_
  rintro e w' ⟨r2, q2, rfl, hv, rfl⟩
  have V2 := Lib.hid hv
  clear hv
  go_wp2_with fail
  refine (implNarrow_any _ _ V2.out.1 (fits_sin hfb (by have := V2.out; rw [hf] at this; exact this))).mono ?_
  rintro e w' ⟨r3, q3, rfl, hv, rfl⟩
  have V3 : Hid (Fv .f32 r3 (sinX (some x))) := Lib.hid (by rw [V2.out.2] at hv; exact hv)
  clear hv
  go_wp2
  go_ret
  exact ⟨r3, _, rfl, V3.out, rfl⟩
set_option maxRecDepth 100000 in
theorem specSineT_any (x : Nat) (X : O) (w : World) (hx : Hid (Fv .f32 x X)) (ht : turnB X = true) :
    Calls Try.prog 99 #[.float .f32 x] w (RetF .f32 (sinX X) w) := by
  obtain ⟨rfl, hs⟩ := turn_small hx.out ht
  have h1 := wide_small hs
  obtain ⟨f, hf, hfb⟩ := sinF0_size h1
  clear ht hs
  go_enter Try.func99, Try.ntmps99
  go_wp2_with (with_reducible_and_instances refine Lo.wpList_wi _ rfl _ _ _ rfl _ _ rfl (by kernel_rfl) (by kernel_rfl) (by assumption) ?_; intro rr nn hrr)
  have h2 : Fv .f64 rr (some (wideW x)) := hrr.out
  obtain rfl := ab_some h2.2
  have h3 := h2.1
  clear h2 hrr
  refine (specSineWide_any _ _ h3 h1).mono ?_
  rintro e w' ⟨r2, q2, rfl, hv, rfl⟩
  have V2 := Lib.hid hv
  clear hv
  go_wp2_with fail
  refine (specNarrow_any _ _ V2.out.1 (fits_sin hfb (by have := V2.out; rw [hf] at this; exact this))).mono ?_
  rintro e w' ⟨r3, q3, rfl, hv, rfl⟩
  have V3 : Hid (Fv .f32 r3 (sinX (some x))) := Lib.hid (by rw [V2.out.2] at hv; exact hv)
  clear hv
  go_wp2
  go_ret
  exact ⟨r3, _, rfl, V3.out, rfl⟩
end Go.Proofs.Ytlodnikboekdpaa

/- Waves at a phase, of both sides. -/
set_option linter.unusedVariables false
set_option linter.unusedSimpArgs false
namespace Go.Proofs.Ytlodnikboekdpaa
open Fl Go.RowKit
theorem fv2 : Hid (Fv .f32 1073741824 (some 1073741824)) := fvc (by decide) (by decide)
theorem fv4 : Hid (Fv .f32 1082130432 (some 1082130432)) := fvc (by decide) (by decide)
def wavO (k : Int) (X : O) : O :=
  if k = 0 then sinX X else if k = 1 then su (mu (some 1073741824) X) (some 1065353216) else if k = 2 then (if ltO X (some 1056964608) then some 1065353216 else some 3212836864)
  else su (mu (some 1082130432) (sizeO (su X (some 1056964608)))) (some 1065353216)
theorem specAbs_any (x : Nat) (X : O) (w : World) (hx : Hid (Fv .f32 x X)) :
    Calls Try.prog 100 #[.float .f32 x] w fun e w' => ∃ r, e = .returned (.float .f32 r) ∧ Hid (Fv .f32 r (sizeO X)) ∧ w = w' := by
  obtain ⟨h1, h2⟩ := hx
  subst h2
  have hp : bitsO (ab .f32 x) < 4294967296 := by
    cases h : ab .f32 x with
    | none => decide
    | some b => obtain rfl := ab_some h; exact h1
  have hb := bits_clear64 hp
  have hr : Hid (Fv .f32 (bitsO (ab .f32 x) % 2147483648) (sizeO (ab .f32 x))) := by
    cases h : ab .f32 x with
    | none => exact Lib.hid ⟨by decide, by rw [ab32]; rfl⟩
    | some b =>
      obtain rfl := ab_some h
      have := sizeN_fv (Lib.hid ⟨h1, h⟩ : Hid (Fv .f32 b (some b)))
      simpa [bitsO, sizeN] using this
  obtain ⟨n, hn⟩ : ∃ n, bitsO (ab .f32 x) = n := ⟨_, rfl⟩
  rw [hn] at hp hb hr
  have hl := l01Bits_any x w h1
  rw [hn] at hl
  have HL := Lib.hid hl
  clear hl hn
  have h3 : n % 2147483648 < 4294967296 := by omega
  go_enter Try.func100, Try.ntmps100
  go_wp2_with (first | (go_at_call 118; refine HL.out.mono ?_; rintro e w' ⟨rfl, rfl⟩) | (go_at_call 117; refine (l01From_any _ _ h3).mono ?_; rintro e w' ⟨rfl, rfl⟩))
  go_ret
  exact ⟨_, rfl, hr, rfl⟩
set_option maxHeartbeats 2000000 in
theorem specWave_any (k : Int) (x : Nat) (X : O) (w : World) (hx : Hid (Fv .f32 x X)) (ht : turnB X = true) (hk : inB k 0 3 = true) :
    Calls Try.prog 60 #[.int .i64 k, .float .f32 x] w (RetF .f32 (wavO k X) w) := by
  simp only [inB, Bool.and_eq_true, decide_eq_true_eq] at hk
  have h4 : k = 0 ∨ k = 1 ∨ k = 2 ∨ k = 3 := by omega
  have k2 := fv2; have k4 := fv4; have k1 := fv1; have kh := fvh
  have g := lt_fv hx fvh
  rcases h4 with rfl | rfl | rfl | rfl
  · have e : wavO 0 X = sinX X := rfl
    rw [e]
    go_enter Try.func60, Try.ntmps60
    go_wp2_with (go_at_call 99; refine (specSineT_any x X _ hx ht).mono ?_; rintro e w' ⟨r, m, rfl, hr, rfl⟩; have HR := Lib.hid hr; clear hr)
    go_ret
    exact ⟨_, _, rfl, HR.out, rfl⟩
  · have e : wavO 1 X = su (mu (some 1073741824) X) (some 1065353216) := rfl
    rw [e]
    go_enter Try.func60, Try.ntmps60
    go_wp2_with (with_reducible_and_instances refine Lo.wpList_fo _ rfl _ _ _ _ _ rfl _ _ _ _ _ rfl rfl rfl (by assumption) (by assumption) ?_; intro rr nn hrr)
    go_ret
    exact ⟨_, _, rfl, hrr.out, rfl⟩
  · have e : wavO 2 X = if ltO X (some 1056964608) then some 1065353216 else some 3212836864 := rfl
    rw [e]
    cases h : ltO X (some 1056964608)
    · rw [h] at g
      simp only [Bool.false_eq_true, if_false]
      go_enter Try.func60, Try.ntmps60
      go_wp2
      go_ret
      exact ⟨_, 0, rfl, fvm1.out, rfl⟩
    · rw [h] at g
      simp only [if_true]
      go_enter Try.func60, Try.ntmps60
      go_wp2
      go_ret
      exact ⟨_, 0, rfl, fv1.out, rfl⟩
  · have e : wavO 3 X = su (mu (some 1082130432) (sizeO (su X (some 1056964608)))) (some 1065353216) := rfl
    rw [e]
    go_enter Try.func60, Try.ntmps60
    go_wp2_with (first | (with_reducible_and_instances refine Lo.wpList_fo _ rfl _ _ _ _ _ rfl _ _ _ _ _ rfl rfl rfl (by assumption) (by assumption) ?_; intro rr nn hrr) | (go_at_call 100; refine (specAbs_any _ _ _ (by assumption)).mono ?_; rintro e w' ⟨r7, rfl, hr7, rfl⟩))
    go_ret
    exact ⟨_, _, rfl, hrr.out, rfl⟩
end Go.Proofs.Ytlodnikboekdpaa

/- WaveAt, of both sides. -/
set_option linter.unusedVariables false
set_option linter.unusedSimpArgs false
namespace Go.Proofs.Ytlodnikboekdpaa
open Fl Go.RowKit
def RetS (F : O) (w : World) (e : Ending) (w' : World) : Prop := ∃ r, e = .returned (.float .f32 r) ∧ Hid (Fv .f32 r F) ∧ w.Since w.heap.size w'
theorem at0_any (x : Nat) (X : O) (w : World) (hx : Hid (Fv .f32 x X)) (ht : turnB X = true) : Calls Try.prog 139 #[.agg #[], .float .f32 x] w (RetS (wavO 0 X) w) := by
  have e : wavO 0 X = sinX X := rfl
  rw [e]
  go_enter Try.func139, Try.ntmps139
  go_wp2_with (go_at_call 140; refine (implSineT_any x X _ hx ht).mono ?_; rintro e w' ⟨r, m, rfl, hr, rfl⟩; have HR := Lib.hid hr; clear hr)
  go_ret
  exact ⟨_, rfl, HR, by (repeat (first | (with_reducible refine Fl.sinDrew ?_) | (with_reducible refine World.Since.drew ?_) | (with_reducible refine Fl.sinSet ?_ ?_; rotate_left) | (with_reducible refine Fl.sinAlloc ?_ ?_; rotate_left) | with_reducible exact World.Since.refl _ _ | with_reducible assumption | (with_reducible refine Fl.sinStep (by with_reducible assumption) ?_))); all_goals (first | omega | (simp; done) | (simp; omega) | (simp [go_sem]; done) | (simp [go_sem]; omega))⟩
theorem at1_any (x : Nat) (X : O) (w : World) (hx : Hid (Fv .f32 x X)) : Calls Try.prog 148 #[.agg #[], .float .f32 x] w (RetS (wavO 1 X) w) := by
  have k2 := fv2; have k1 := fv1
  have e : wavO 1 X = su (mu (some 1073741824) X) (some 1065353216) := rfl
  rw [e]
  go_enter Try.func148, Try.ntmps148
  go_wp2_with (with_reducible_and_instances refine Lo.wpList_fo _ rfl _ _ _ _ _ rfl _ _ _ _ _ rfl rfl rfl (by assumption) (by assumption) ?_; intro rr nn hrr)
  go_ret
  exact ⟨_, rfl, hrr, by (repeat (first | (with_reducible refine Fl.sinDrew ?_) | (with_reducible refine World.Since.drew ?_) | (with_reducible refine Fl.sinSet ?_ ?_; rotate_left) | (with_reducible refine Fl.sinAlloc ?_ ?_; rotate_left) | with_reducible exact World.Since.refl _ _ | with_reducible assumption | (with_reducible refine Fl.sinStep (by with_reducible assumption) ?_))); all_goals (first | omega | (simp; done) | (simp; omega) | (simp [go_sem]; done) | (simp [go_sem]; omega))⟩
theorem at2_any (x : Nat) (X : O) (w : World) (hx : Hid (Fv .f32 x X)) : Calls Try.prog 149 #[.agg #[], .float .f32 x] w (RetS (wavO 2 X) w) := by
  have g := lt_fv hx fvh
  have e : wavO 2 X = if ltO X (some 1056964608) then some 1065353216 else some 3212836864 := rfl
  rw [e]
  cases h : ltO X (some 1056964608)
  · rw [h] at g
    simp only [Bool.false_eq_true, if_false]
    go_enter Try.func149, Try.ntmps149
    go_wp2
    go_ret
    exact ⟨_, rfl, fvm1, by (repeat (first | (with_reducible refine Fl.sinDrew ?_) | (with_reducible refine World.Since.drew ?_) | (with_reducible refine Fl.sinSet ?_ ?_; rotate_left) | (with_reducible refine Fl.sinAlloc ?_ ?_; rotate_left) | with_reducible exact World.Since.refl _ _ | with_reducible assumption | (with_reducible refine Fl.sinStep (by with_reducible assumption) ?_))); all_goals (first | omega | (simp; done) | (simp; omega) | (simp [go_sem]; done) | (simp [go_sem]; omega))⟩
  · rw [h] at g
    simp only [if_true]
    go_enter Try.func149, Try.ntmps149
    go_wp2
    go_ret
    exact ⟨_, rfl, fv1, by (repeat (first | (with_reducible refine Fl.sinDrew ?_) | (with_reducible refine World.Since.drew ?_) | (with_reducible refine Fl.sinSet ?_ ?_; rotate_left) | (with_reducible refine Fl.sinAlloc ?_ ?_; rotate_left) | with_reducible exact World.Since.refl _ _ | with_reducible assumption | (with_reducible refine Fl.sinStep (by with_reducible assumption) ?_))); all_goals (first | omega | (simp; done) | (simp; omega) | (simp [go_sem]; done) | (simp [go_sem]; omega))⟩
theorem implSizeF (x : Nat) (X : O) (w : World) (hx : Hid (Fv .f32 x X)) : Calls Try.prog 151 #[.float .f32 x] w fun e w' => ∃ r, e = .returned (.float .f32 r) ∧ Hid (Fv .f32 r (sizeO X)) ∧ w = w' :=
  (implSize_any x w hx.out.1).mono fun e w' ⟨h1, h2⟩ => ⟨_, h1, sizeN_fv hx, h2⟩
theorem at3_any (x : Nat) (X : O) (w : World) (hx : Hid (Fv .f32 x X)) : Calls Try.prog 150 #[.agg #[], .float .f32 x] w (RetS (wavO 3 X) w) := by
  have k4 := fv4; have k1 := fv1; have kh := fvh
  have e : wavO 3 X = su (mu (some 1082130432) (sizeO (su X (some 1056964608)))) (some 1065353216) := rfl
  rw [e]
  go_enter Try.func150, Try.ntmps150
  go_wp2_with (first | (with_reducible_and_instances refine Lo.wpList_fo _ rfl _ _ _ _ _ rfl _ _ _ _ _ rfl rfl rfl (by assumption) (by assumption) ?_; intro rr nn hrr) | (go_at_call 151; refine (implSizeF _ _ _ (by assumption)).mono ?_; rintro e w' ⟨r7, rfl, hr7, rfl⟩))
  go_ret
  exact ⟨_, rfl, hrr, by (repeat (first | (with_reducible refine Fl.sinDrew ?_) | (with_reducible refine World.Since.drew ?_) | (with_reducible refine Fl.sinSet ?_ ?_; rotate_left) | (with_reducible refine Fl.sinAlloc ?_ ?_; rotate_left) | with_reducible exact World.Since.refl _ _ | with_reducible assumption | (with_reducible refine Fl.sinStep (by with_reducible assumption) ?_))); all_goals (first | omega | (simp; done) | (simp; omega) | (simp [go_sem]; done) | (simp [go_sem]; omega))⟩
theorem meth0 (n : Nat) (w : World) : (method (n + 1) 126 (.agg #[]) "loop.example/g01170/impl.at").run Try.prog w = .ok (139, .agg #[]) w := by kernel_rfl
theorem meth1 (n : Nat) (w : World) : (method (n + 1) 127 (.agg #[]) "loop.example/g01170/impl.at").run Try.prog w = .ok (148, .agg #[]) w := by kernel_rfl
theorem meth2 (n : Nat) (w : World) : (method (n + 1) 128 (.agg #[]) "loop.example/g01170/impl.at").run Try.prog w = .ok (149, .agg #[]) w := by kernel_rfl
theorem meth3 (n : Nat) (w : World) : (method (n + 1) 129 (.agg #[]) "loop.example/g01170/impl.at").run Try.prog w = .ok (150, .agg #[]) w := by kernel_rfl
def okWav (k : Int) (X : O) : Bool := inB k 0 3 && turnB X
def wavS (k : Int) (X : O) (b : Bool) : O := if b then wavO k X else some 0
theorem specWaveAt_b (k : Int) (x : Nat) (X : O) (b : Bool) (w : World) (hx : Hid (Fv .f32 x X)) (h : okWav k X = b) : Calls Try.prog 18 #[.int .i64 k, .float .f32 x] w (PVB (wavS k X b) b w) := by
  subst h
  cases h1 : inB k 0 3 <;> cases h2 : turnB X
  case true.true =>
    have e : okWav k X = true := by unfold okWav; rw [h1, h2]; rfl
    rw [e]
    simp only [wavS, if_true]
    go_enter Try.func18, Try.ntmps18
    go_wp2_with (first | (go_at_call 58; refine (specKind_b k _ _ h1).mono ?_; rintro e w1 ⟨rfl, rfl⟩) | (go_at_call 59; refine (specTurn_b x X _ _ hx h2).mono ?_; rintro e w1 ⟨rfl, rfl⟩) | (go_at_call 60; refine (specWave_any k x X _ hx h2 h1).mono ?_; rintro e w' ⟨r, m, rfl, hr, rfl⟩; have HR := Lib.hid hr; clear hr))
    go_ret2
    exact ⟨_, rfl, HR, by (repeat (first | (with_reducible refine Fl.sinDrew ?_) | (with_reducible refine World.Since.drew ?_) | (with_reducible refine Fl.sinSet ?_ ?_; rotate_left) | (with_reducible refine Fl.sinAlloc ?_ ?_; rotate_left) | with_reducible exact World.Since.refl _ _ | with_reducible assumption | (with_reducible refine Fl.sinStep (by with_reducible assumption) ?_))); all_goals (first | omega | (simp; done) | (simp; omega) | (simp [go_sem]; done) | (simp [go_sem]; omega))⟩
  all_goals
    have e : okWav k X = false := by unfold okWav; rw [h1, h2]; rfl
    rw [e]
    simp only [wavS, Bool.false_eq_true, if_false]
    go_enter Try.func18, Try.ntmps18
    go_wp2_with (first | (go_at_call 58; refine (specKind_b k _ _ h1).mono ?_; rintro e w1 ⟨rfl, rfl⟩) | (go_at_call 59; refine (specTurn_b x X _ _ hx h2).mono ?_; rintro e w1 ⟨rfl, rfl⟩))
    go_ret2
    exact ⟨_, rfl, fv0, by (repeat (first | (with_reducible refine Fl.sinDrew ?_) | (with_reducible refine World.Since.drew ?_) | (with_reducible refine Fl.sinSet ?_ ?_; rotate_left) | (with_reducible refine Fl.sinAlloc ?_ ?_; rotate_left) | with_reducible exact World.Since.refl _ _ | with_reducible assumption | (with_reducible refine Fl.sinStep (by with_reducible assumption) ?_))); all_goals (first | omega | (simp; done) | (simp; omega) | (simp [go_sem]; done) | (simp [go_sem]; omega))⟩
set_option maxHeartbeats 2000000 in
set_option maxRecDepth 100000 in
theorem implWaveAt_b (k : Int) (x : Nat) (X : O) (b : Bool) (w : World) (hx : Hid (Fv .f32 x X)) (h : okWav k X = b) : Calls Try.prog 19 #[.int .i64 k, .float .f32 x] w (PVB (wavS k X b) b w) := by
  subst h
  cases h1 : inB k 0 3
  · have e : okWav k X = false := by unfold okWav; rw [h1]; rfl
    rw [e]
    simp only [wavS, Bool.false_eq_true, if_false]
    go_enter Try.func19, Try.ntmps19
    go_wp2_with (first | (go_at_call 56; with_reducible refine (waveOf_no k _ h1).mono ?_; rintro e w1 ⟨rfl, rfl⟩))
    go_ret2
    exact ⟨_, rfl, fv0, by (repeat (first | (with_reducible refine Fl.sinDrew ?_) | (with_reducible refine World.Since.drew ?_) | (with_reducible refine Fl.sinSet ?_ ?_; rotate_left) | (with_reducible refine Fl.sinAlloc ?_ ?_; rotate_left) | with_reducible exact World.Since.refl _ _ | with_reducible assumption | (with_reducible refine Fl.sinStep (by with_reducible assumption) ?_))); all_goals (first | omega | (simp; done) | (simp; omega) | (simp [go_sem]; done) | (simp [go_sem]; omega))⟩
  · have hw := fun w => waveOf_ok k w h1
    cases h2 : turnB X
    · have e : okWav k X = false := by unfold okWav; rw [h1, h2]; rfl
      rw [e]
      simp only [wavS, Bool.false_eq_true, if_false]
      generalize wavV k = V at hw
      go_enter Try.func19, Try.ntmps19
      go_wp2_with (first | (go_at_call 56; refine (hw _).mono ?_; rintro e w1 ⟨rfl, rfl⟩) | (go_at_call 57; refine (implPhase_b x X _ _ hx h2).mono ?_; rintro e w1 ⟨rfl, rfl⟩))
      go_ret2
      exact ⟨_, rfl, fv0, by (repeat (first | (with_reducible refine Fl.sinDrew ?_) | (with_reducible refine World.Since.drew ?_) | (with_reducible refine Fl.sinSet ?_ ?_; rotate_left) | (with_reducible refine Fl.sinAlloc ?_ ?_; rotate_left) | with_reducible exact World.Since.refl _ _ | with_reducible assumption | (with_reducible refine Fl.sinStep (by with_reducible assumption) ?_))); all_goals (first | omega | (simp; done) | (simp; omega) | (simp [go_sem]; done) | (simp [go_sem]; omega))⟩
    · have e : okWav k X = true := by unfold okWav; rw [h1, h2]; rfl
      rw [e]
      simp only [wavS, if_true]
      have hb := h1
      simp only [inB, Bool.and_eq_true, decide_eq_true_eq] at hb
      have h4 : k = 0 ∨ k = 1 ∨ k = 2 ∨ k = 3 := by omega
      clear hb h1
      have M0 := meth0; have M1 := meth1; have M2 := meth2; have M3 := meth3
      have H0 := fun w => at0_any x X w hx h2
      have H1 := fun w => at1_any x X w hx
      have H2 := fun w => at2_any x X w hx
      have H3 := fun w => at3_any x X w hx
      rcases h4 with rfl | rfl | rfl | rfl
      all_goals
        simp [wavV] at hw
        go_enter Try.func19, Try.ntmps19
        go_wp2_with (first | (go_at_call 56; refine (hw _).mono ?_; rintro e w1 ⟨rfl, rfl⟩) | (go_at_call 57; refine (implPhase_b x X _ _ hx h2).mono ?_; rintro e w1 ⟨rfl, rfl⟩) | ((first | with_reducible refine (H0 _).mono ?_ | with_reducible refine (H1 _).mono ?_ | with_reducible refine (H2 _).mono ?_ | with_reducible refine (H3 _).mono ?_); rintro e w1 ⟨r, rfl, hr, hs⟩; have HS := Lib.hid hs; clear hs))
        go_ret2
        exact ⟨_, rfl, hr, HS.out⟩
end Go.Proofs.Ytlodnikboekdpaa

/- Walks of laws whose results are lists. -/
set_option linter.unusedVariables false
set_option linter.unusedSimpArgs false
namespace Go.Proofs.Ytlodnikboekdpaa
open Fl Go.RowKit
set_option maxHeartbeats 16000000 in
set_option maxRecDepth 100000 in
theorem lawWaveAt_gen (a0 : Int) (a1 : Nat) (ro0 : O) (rb1 : Bool) (w : World)
     
    (hsp : ∀ (v : World) (_ : Unit), Calls Try.prog 18 #[.int .i64 a0, .float .f32 a1] v (PVB ro0 rb1 v))
    (him : ∀ (v : World) (_ : Unit), Calls Try.prog 19 #[.int .i64 a0, .float .f32 a1] v (PVB ro0 rb1 v)) :
    Calls Try.prog 4 #[.int .i64 a0, .float .f32 a1] w fun e w' => e = .returned (.bool true) ∧ w.Since w.heap.size w' := by
  have S0 : Hid (w.Since w.heap.size w) := Lib.hid (World.Since.refl _ _)
  have HSP := Lib.hid hsp; have HIM := Lib.hid him; clear hsp him
  go_enter Try.func4, Try.ntmps4
  go_wp2_with fail
  have S : Hid (w.Since w.heap.size w) := Lib.hid (World.Since.refl _ _)
  have LV : Hid (Hx w.heap.size w []) := Lib.hid trivial
  go_at_call 18
  refine (HSP.out _ () ).mono ?_
  rintro e v1 ⟨w0, rfl, how0, hs⟩
  have LV' := Lib.hid ((LV.out).since hs); clear LV; have LV := LV'; clear LV'
  have S' := Lib.hid (since_step S.out hs); clear S; have S := S'; clear S'
  clear hs
  have Vw0 := Lib.hid how0; have Lw0 := Lib.hid how0.out.1; clear how0
  go_wp2_with fail
  go_at_call 19
  refine (HIM.out _ () ).mono ?_
  rintro e v2 ⟨g0, rfl, hog0, hs⟩
  have LV' := Lib.hid ((LV.out).since hs); clear LV; have LV := LV'; clear LV'
  have S' := Lib.hid (since_step S.out hs); clear S; have S := S'; clear S'
  clear hs
  have Vg0 := Lib.hid hog0; have Lg0 := Lib.hid hog0.out.1; clear hog0
  have L1 := Lg0.out; have L2 := Lw0.out
  go_wp2_with (first | (with_reducible_and_instances refine wpList_wide _ rfl _ _ _ rfl _ rfl (by kernel_rfl) (by kernel_rfl) L1 ?_; intro r3 m3 hr; have X1 := Lib.hid hr; clear hr) | (with_reducible_and_instances refine wpList_wide _ rfl _ _ _ rfl _ rfl (by kernel_rfl) (by kernel_rfl) L2 ?_; intro r4 m4 hr; have X2 := Lib.hid hr; clear hr))
  clear L1 L2
  go_at_call 20
  refine (sameFloat_any _ _ _ _ X1.out (by have := X2.out; rw [Vw0.out.out.2, ← Vg0.out.out.2] at this; exact this)).mono ?_
  rintro e w' ⟨rfl, m5, rfl⟩
  clear X1 X2
  have hs : World.Since v2.heap.size v2 (v2.drewN (m3 + m4 + m5)) := since_drewN (World.Since.refl _ _) _
  simp only [World.drewN_drewN]
  generalize hV : World.drewN v2 (m3 + m4 + m5) = v3 at hs ⊢
  clear hV
  have S' := Lib.hid (since_step S.out hs); clear S; have S := S'; clear S'
  have LV' := Lib.hid (LV.out.since hs); clear LV; have LV := LV'; clear LV'
  clear hs
  go_wp2_with fail
  go_ret
  exact ⟨rfl, S.out⟩
end Go.Proofs.Ytlodnikboekdpaa

/- The law of WaveAt. -/
set_option linter.unusedVariables false
set_option linter.unusedSimpArgs false
namespace Go.Proofs.Ytlodnikboekdpaa
open Fl Go.RowKit
theorem lawWaveAt_any (k : Int) (x : Nat) (w : World) (hk : (Lit.int .i64 k).wf = true) (hx : Fv .f32 x (ab .f32 x)) :
    Calls Try.prog 4 #[.int .i64 k, .float .f32 x] w fun e w' => e = .returned (.bool true) ∧ w.Since w.heap.size w' :=
  lawWaveAt_gen k x _ _ w (fun v _ => specWaveAt_b k x _ _ v (Lib.hid hx) rfl) (fun v _ => implWaveAt_b k x _ _ v (Lib.hid hx) rfl)
end Go.Proofs.Ytlodnikboekdpaa

