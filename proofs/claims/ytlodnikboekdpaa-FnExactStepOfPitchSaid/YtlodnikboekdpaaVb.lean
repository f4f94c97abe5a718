/- Voices: levels of envelopes. -/
import Derived.Test.YtlodnikboekdpaaVa
import Derived.Test.YtlodnikboekdpaaLw
set_option linter.unusedVariables false
set_option linter.unusedSimpArgs false
namespace Go.Proofs.Ytlodnikboekdpaa
open Fl Go.RowKit
abbrev o1 : O := some 1065353216
def heldO (a d : Int) (S : O) (n : Int) : O := if n < a then qu (some (fI n)) (some (fI a)) else if n - a < d then su o1 (mu (qu (some (fI (n - a))) (some (fI d))) (su o1 S)) else S
def lvlO (a d : Int) (S : O) (r held n : Int) : O := if n < held then heldO a d S n else if n - held < r then mu (heldO a d S held) (su o1 (qu (some (fI (n - held))) (some (fI r)))) else some 0
def inR (x lo hi : Int) : Prop := lo ≤ x ∧ x ≤ hi
set_option maxHeartbeats 2000000 in
set_option maxRecDepth 100000 in
theorem specHeld_any (g : Nat) (e : EnvN) (S : O) (n : Int) (w : World) (hA : EnvAt w g e) (hS : Hid (Fv .f32 e.s S)) (ha : inR e.a 0 1000) (hd : inR e.d 0 1000) (hn : inR n 0 4000) :
    Calls Try.prog 106 #[.pointer (some ⟨g, 0, none⟩), .int .i64 n] w fun e' w' => ∃ r m, e' = .returned (.float .f32 r) ∧ Hid (Fv .f32 r (heldO e.a e.d S n)) ∧ w.drewN m = w' := by
  obtain ⟨a, d, s, r⟩ := e
  obtain ⟨_, c0, c1, c2, c3⟩ := hA
  simp only [inR] at *
  have k1 := fv1
  unfold heldO
  by_cases h1 : n < a
  · rw [if_pos h1]
    have q1 := fI_fv n
    have q2 := fI_fv a
    go_enter Try.func106, Try.ntmps106
    go_wp2_with (with_reducible_and_instances refine Lo.wpList_fo _ rfl _ _ _ _ _ rfl _ _ _ _ _ rfl rfl rfl (by assumption) (by assumption) ?_; intro rr nn hrr)
    go_ret
    exact ⟨_, _, rfl, hrr, rfl⟩
  · rw [if_neg h1]
    by_cases h2 : n - a < d
    · rw [if_pos h2]
      have q1 := fI_fv (n - a)
      have q2 := fI_fv d
      go_enter Try.func106, Try.ntmps106
      go_wp2_with fail
      refine Lo.wp_loose_all [39, 44, 45, 46, 4] (by kernel_rfl) (by kernel_rfl) ?_
      repeat (first
        | (refine Lo.wpL_move rfl _ (.inl rfl) (by decide) ?_; simp only [Act.put, List.setIfInBounds_toArray, List.set_cons_succ, List.set_cons_zero])
        | (refine Lo.wpL_move rfl _ (.inr rfl) (by decide) ?_; simp only [Act.put, List.setIfInBounds_toArray, List.set_cons_succ, List.set_cons_zero])
        | (refine Lo.wpL_fop rfl _ _ _ _ rfl rfl (by decide) _ _ _ _ _ rfl rfl (by assumption) (by assumption) ?_; intro rr hrr; simp only [Act.put, List.setIfInBounds_toArray, List.set_cons_succ, List.set_cons_zero])
        | (refine Lo.wpL_wide rfl _ _ _ rfl (by decide) _ _ rfl (by kernel_rfl) (by kernel_rfl) (by assumption) ?_; intro rr hrr; simp only [Act.put, List.setIfInBounds_toArray, List.set_cons_succ, List.set_cons_zero])
        | (refine Lo.wpL_quiet rfl (by decide) (fun K hK => ?_); go_big_quiet_op; (refine hK _ ?_; clear hK K)))
      refine Lo.wpL_nil ?_
      refine Lo.after_fl rfl (by assumption) ?_; intro q39 h39; simp only [Act.put, List.setIfInBounds_toArray, List.set_cons_succ, List.set_cons_zero]
      refine Lo.after_fl rfl (by assumption) ?_; intro q44 h44; simp only [Act.put, List.setIfInBounds_toArray, List.set_cons_succ, List.set_cons_zero]
      refine Lo.after_fl rfl (by assumption) ?_; intro q45 h45; simp only [Act.put, List.setIfInBounds_toArray, List.set_cons_succ, List.set_cons_zero]
      refine Lo.after_fl rfl (by assumption) ?_; intro q46 h46; simp only [Act.put, List.setIfInBounds_toArray, List.set_cons_succ, List.set_cons_zero]
      refine Lo.after_fl rfl (by assumption) ?_; intro q4 h4; simp only [Act.put, List.setIfInBounds_toArray, List.set_cons_succ, List.set_cons_zero]
      refine Lo.after_nil ?_; intro nq
      go_wp2
      go_ret
      exact ⟨_, _, rfl, h4, rfl⟩
    · rw [if_neg h2]
      go_enter Try.func106, Try.ntmps106
      go_wp2
      go_ret
      exact ⟨_, rfl, hS, 0, rfl⟩
theorem qu_ex (p q : Int) : ∃ r, Fv .f32 r (qu (some (fI p)) (some (fI q))) := Lo.fv_ex (op := .quo) rfl .f32 _ _ _ _ (fI_fv p).out (fI_fv q).out
theorem share_any (p q : Int) (w : World) : Calls Try.prog 108 #[.int .i64 p, .int .i64 q] w fun e w' => ∃ r m, e = .returned (.float .f32 r) ∧ Hid (Fv .f32 r (qu (some (fI p)) (some (fI q)))) ∧ w.drewN m = w' := by
  have q1 := fI_fv p
  have q2 := fI_fv q
  go_enter Try.func108, Try.ntmps108
  go_wp2_with (with_reducible_and_instances refine Lo.wpList_fo _ rfl _ _ _ _ _ rfl _ _ _ _ _ rfl rfl rfl (by assumption) (by assumption) ?_; intro rr nn hrr)
  go_ret
  exact ⟨_, _, rfl, hrr, rfl⟩
theorem share_hc (p q : Int) (w : World) (m : Nat) : Calls Try.prog 108 #[.int .i64 p, .int .i64 q] (w.drewN m) fun e w' => ∃ r n, e = .returned (.float .f32 r) ∧ Fv .f32 r (qu (some (fI p)) (some (fI q))) ∧ w' = w.drewN n :=
  (share_any p q _).mono fun e w' ⟨r, n, h1, h2, h3⟩ => ⟨r, m + n, h1, h2.out, h3.symm.trans (by simp [World.drewN, Nat.add_assoc])⟩
set_option maxHeartbeats 2000000 in
set_option maxRecDepth 100000 in
theorem implHeld_any (e : EnvN) (S : O) (n : Int) (w : World) (hS : Hid (Fv .f32 e.s S)) (ha : inR e.a 0 1000) (hd : inR e.d 0 1000) (hn : inR n 0 4000) :
    Calls Try.prog 107 #[e.val, .int .i64 n] w fun e' w' => ∃ r m, e' = .returned (.float .f32 r) ∧ Hid (Fv .f32 r (heldO e.a e.d S n)) ∧ (w.alloc (envB e)).drewN m = w' := by
  obtain ⟨a, d, s, r⟩ := e
  simp only [inR, EnvN.val, envB] at *
  have k1 := fv1
  unfold heldO
  by_cases h1 : n < a
  · rw [if_pos h1]
    go_enter Try.func107, Try.ntmps107
    go_wp2_with (go_at_call 108; refine (share_any _ _ _).mono ?_; rintro e w1 ⟨x1, m1, rfl, hx1, rfl⟩)
    go_ret
    exact ⟨_, _, rfl, hx1, rfl⟩
  · rw [if_neg h1]
    by_cases h2 : n - a < d
    · rw [if_pos h2]
      go_enter Try.func107, Try.ntmps107
      go_wp2_with fail
      refine Lo.wp_loose_all [25, 28, 29, 30, 4] (by kernel_rfl) (by kernel_rfl) ?_
      repeat (first
        | (refine Lo.wpL_callF rfl 108 [.tmp 22, .tmp 24] [.int .i64 (n - a), .int .i64 d] _ rfl (by decide) (callsEnter 108 Try.f108 _ (by kernel_rfl) (by kernel_rfl) rfl) .f32 (qu (some (fI (n - a))) (some (fI d))) (Lo.keeps [22, 24] _ rfl (by decide)) (share_hc (n - a) d _) (qu_ex (n - a) d) ?_; intro rr hrr; simp only [Act.put, List.setIfInBounds_toArray, List.set_cons_succ, List.set_cons_zero])
        | (refine Lo.wpL_move rfl _ (.inl rfl) (by decide) ?_; simp only [Act.put, List.setIfInBounds_toArray, List.set_cons_succ, List.set_cons_zero])
        | (refine Lo.wpL_move rfl _ (.inr rfl) (by decide) ?_; simp only [Act.put, List.setIfInBounds_toArray, List.set_cons_succ, List.set_cons_zero])
        | (refine Lo.wpL_fop rfl _ _ _ _ rfl rfl (by decide) _ _ _ _ _ rfl rfl (by assumption) (by assumption) ?_; intro rr hrr; simp only [Act.put, List.setIfInBounds_toArray, List.set_cons_succ, List.set_cons_zero])
        | (refine Lo.wpL_wide rfl _ _ _ rfl (by decide) _ _ rfl (by kernel_rfl) (by kernel_rfl) (by assumption) ?_; intro rr hrr; simp only [Act.put, List.setIfInBounds_toArray, List.set_cons_succ, List.set_cons_zero])
        | (refine Lo.wpL_quiet rfl (by decide) (fun K hK => ?_); go_big_quiet_op; (refine hK _ ?_; clear hK K)))
      refine Lo.wpL_nil ?_
      refine Lo.after_fl rfl (by assumption) ?_; intro q25 h25; simp only [Act.put, List.setIfInBounds_toArray, List.set_cons_succ, List.set_cons_zero]
      refine Lo.after_fl rfl (by assumption) ?_; intro q28 h28; simp only [Act.put, List.setIfInBounds_toArray, List.set_cons_succ, List.set_cons_zero]
      refine Lo.after_fl rfl (by assumption) ?_; intro q29 h29; simp only [Act.put, List.setIfInBounds_toArray, List.set_cons_succ, List.set_cons_zero]
      refine Lo.after_fl rfl (by assumption) ?_; intro q30 h30; simp only [Act.put, List.setIfInBounds_toArray, List.set_cons_succ, List.set_cons_zero]
      refine Lo.after_fl rfl (by assumption) ?_; intro q4 h4; simp only [Act.put, List.setIfInBounds_toArray, List.set_cons_succ, List.set_cons_zero]
      refine Lo.after_nil ?_; intro nq
      go_wp2
      go_ret
      exact ⟨_, _, rfl, h4, rfl⟩
    · rw [if_neg h2]
      go_enter Try.func107, Try.ntmps107
      go_wp2
      go_ret
      exact ⟨_, rfl, hS, 0, rfl⟩
theorem EnvAt.drewN {w : World} {g : Nat} {e : EnvN} (h : EnvAt w g e) (m : Nat) : EnvAt (w.drewN m) g e := ⟨h.lt, h.a, h.d, h.s, h.r⟩
theorem heldO_ex {s : Nat} {S : O} (a d n : Int) (hS : Hid (Fv .f32 s S)) : ∃ r, Fv .f32 r (heldO a d S n) := by
  unfold heldO
  split
  · exact qu_ex _ _
  · split
    · obtain ⟨q1, h1⟩ := qu_ex (n - a) d
      obtain ⟨q2, h2⟩ := Lo.fv_ex (op := .sub) rfl .f32 _ _ _ _ fv1.out hS.out
      obtain ⟨q3, h3⟩ := Lo.fv_ex (op := .mul) rfl .f32 _ _ _ _ h1 h2
      exact Lo.fv_ex (op := .sub) rfl .f32 _ _ _ _ fv1.out h3
    · exact ⟨s, hS.out⟩
theorem specHeld_hc (g : Nat) (e : EnvN) (S : O) (n : Int) (w : World) (hA : EnvAt w g e) (hS : Hid (Fv .f32 e.s S)) (ha : inR e.a 0 1000) (hd : inR e.d 0 1000) (hn : inR n 0 4000) (m : Nat) :
    Calls Try.prog 106 #[.pointer (some ⟨g, 0, none⟩), .int .i64 n] (w.drewN m) fun e' w' => ∃ r n', e' = .returned (.float .f32 r) ∧ Fv .f32 r (heldO e.a e.d S n) ∧ w' = w.drewN n' :=
  (specHeld_any g e S n _ (hA.drewN m) hS ha hd hn).mono fun e w' ⟨r, n, h1, h2, h3⟩ => ⟨r, m + n, h1, h2.out, h3.symm.trans (by simp [World.drewN, Nat.add_assoc])⟩
set_option maxHeartbeats 2000000 in
set_option maxRecDepth 100000 in
theorem specLevel_any (g : Nat) (e : EnvN) (S : O) (held n : Int) (w : World) (hA : EnvAt w g e) (hS : Hid (Fv .f32 e.s S)) (ha : inR e.a 0 1000) (hd : inR e.d 0 1000) (hr : inR e.r 0 1000) (hh : inR held 0 4000) (hn : inR n 0 4000) :
    Calls Try.prog 71 #[.pointer (some ⟨g, 0, none⟩), .int .i64 held, .int .i64 n] w fun e' w' => ∃ r m, e' = .returned (.float .f32 r) ∧ Hid (Fv .f32 r (lvlO e.a e.d S e.r held n)) ∧ w.drewN m = w' := by
  have H1 := Lib.hid (specHeld_any g e S n w hA hS ha hd hn)
  have H2 := fun m => specHeld_hc g e S held w hA hS ha hd hh m
  have hx := heldO_ex e.a e.d held hS
  obtain ⟨a, d, s, r⟩ := e
  obtain ⟨_, c0, c1, c2, c3⟩ := hA
  simp only [inR] at *
  have k1 := fv1
  unfold lvlO
  by_cases h1 : n < held
  · rw [if_pos h1]
    go_enter Try.func71, Try.ntmps71
    go_wp2_with (go_at_call 106; refine H1.out.mono ?_; rintro e w1 ⟨x1, m1, rfl, hx1, rfl⟩)
    go_ret
    exact ⟨_, _, rfl, hx1, rfl⟩
  · rw [if_neg h1]
    by_cases h2 : n - held < r
    · rw [if_pos h2]
      have q1 := fI_fv (n - held)
      have q2 := fI_fv r
      go_enter Try.func71, Try.ntmps71
      go_wp2_with fail
      refine Lo.wp_loose_all [25, 33, 34, 35, 6] (by kernel_rfl) (by kernel_rfl) ?_
      repeat (first
        | (refine Lo.wpL_callF rfl 106 [.tmp 23, .tmp 24] [.pointer (some ⟨g, 0, none⟩), .int .i64 held] _ rfl (by decide) (callsEnter 106 Try.f106 _ (by kernel_rfl) (by kernel_rfl) rfl) .f32 _ (Lo.keeps [23, 24] _ rfl (by decide)) H2 hx ?_; intro rr hrr; simp only [Act.put, List.setIfInBounds_toArray, List.set_cons_succ, List.set_cons_zero])
        | (refine Lo.wpL_move rfl _ (.inl rfl) (by decide) ?_; simp only [Act.put, List.setIfInBounds_toArray, List.set_cons_succ, List.set_cons_zero])
        | (refine Lo.wpL_move rfl _ (.inr rfl) (by decide) ?_; simp only [Act.put, List.setIfInBounds_toArray, List.set_cons_succ, List.set_cons_zero])
        | (refine Lo.wpL_fop rfl _ _ _ _ rfl rfl (by decide) _ _ _ _ _ rfl rfl (by assumption) (by assumption) ?_; intro rr hrr; simp only [Act.put, List.setIfInBounds_toArray, List.set_cons_succ, List.set_cons_zero])
        | (refine Lo.wpL_wide rfl _ _ _ rfl (by decide) _ _ rfl (by kernel_rfl) (by kernel_rfl) (by assumption) ?_; intro rr hrr; simp only [Act.put, List.setIfInBounds_toArray, List.set_cons_succ, List.set_cons_zero])
        | (refine Lo.wpL_quiet rfl (by decide) (fun K hK => ?_); go_big_quiet_op; (refine hK _ ?_; clear hK K)))
      refine Lo.wpL_nil ?_
      refine Lo.after_fl rfl (by assumption) ?_; intro q25 h25; simp only [Act.put, List.setIfInBounds_toArray, List.set_cons_succ, List.set_cons_zero]
      refine Lo.after_fl rfl (by assumption) ?_; intro q33 h33; simp only [Act.put, List.setIfInBounds_toArray, List.set_cons_succ, List.set_cons_zero]
      refine Lo.after_fl rfl (by assumption) ?_; intro q34 h34; simp only [Act.put, List.setIfInBounds_toArray, List.set_cons_succ, List.set_cons_zero]
      refine Lo.after_fl rfl (by assumption) ?_; intro q35 h35; simp only [Act.put, List.setIfInBounds_toArray, List.set_cons_succ, List.set_cons_zero]
      refine Lo.after_fl rfl (by assumption) ?_; intro q6 h6; simp only [Act.put, List.setIfInBounds_toArray, List.set_cons_succ, List.set_cons_zero]
      refine Lo.after_nil ?_; intro nq
      go_wp2
      go_ret
      exact ⟨_, _, rfl, h6, rfl⟩
    · rw [if_neg h2]
      go_enter Try.func71, Try.ntmps71
      go_wp2
      go_ret
      exact ⟨_, rfl, fv0, 0, rfl⟩
theorem implHeld_since (e : EnvN) (S : O) (n : Int) (w : World) (hS : Hid (Fv .f32 e.s S)) (ha : inR e.a 0 1000) (hd : inR e.d 0 1000) (hn : inR n 0 4000) :
    Calls Try.prog 107 #[e.val, .int .i64 n] w fun e' w' => ∃ r, e' = .returned (.float .f32 r) ∧ Hid (Fv .f32 r (heldO e.a e.d S n)) ∧ w.Since w.heap.size w' :=
  (implHeld_any e S n w hS ha hd hn).mono fun e' w' ⟨r, m, h1, h2, h3⟩ => ⟨r, h1, h2, by subst h3; exact since_drewN ((World.Since.refl _ _).alloc (Nat.le_refl _) _) _⟩
theorem EnvAt.range {w : World} {g : Nat} {e : EnvN} (h : EnvAt w g e) : w.rangeAt g 0 [.int .i64 e.a, .int .i64 e.d, .float .f32 e.s, .int .i64 e.r] := fun j v hj => by
  rw [Nat.zero_add]
  match j, hj with
  | 0, hj => cases hj; exact h.a
  | 1, hj => cases hj; exact h.d
  | 2, hj => cases hj; exact h.s
  | 3, hj => cases hj; exact h.r
theorem EnvAt.load3 {w : World} {g : Nat} {e : EnvN} (h : EnvAt w g e) : (loadVar 2 ⟨g, 3, none⟩).run Try.prog w = .ok (.int .i64 e.r) w := by
  have h3 := h.r
  simp [loadVar, go_sem, h3]
theorem held_hc (W : World) (e : EnvN) (S : O) (n : Int) (hS : Hid (Fv .f32 e.s S)) (ha : inR e.a 0 1000) (hd : inR e.d 0 1000) (hn : inR n 0 4000) (us : List Value) (hu : Lo.VRs [e.val, .int .i64 n] us) (v : World) (hv : ∃ hs d, v = Lo.mkW W hs d) :
    Calls Try.prog 107 us.toArray v fun e' v2 => ∃ r, e' = .returned (.float .f32 r) ∧ Fv .f32 r (heldO e.a e.d S n) ∧ ∃ hs d, v2 = Lo.mkW W hs d := by
  obtain ⟨u0, _, rfl, e0, u1, _, rfl, e1, rfl⟩ := hu
  rw [Lo.VR_agg e0, Lo.VR_int e1]
  exact (implHeld_since e S n v hS ha hd hn).mono fun e' w' ⟨r, h1, h2, h3⟩ => ⟨r, h1, h2.out, Lo.mkW_mkW hv h3⟩
theorem shareG_hc (W : World) (p q : Int) (us : List Value) (hu : Lo.VRs [.int .i64 p, .int .i64 q] us) (v : World) (hv : ∃ hs d, v = Lo.mkW W hs d) :
    Calls Try.prog 108 us.toArray v fun e' v2 => ∃ r, e' = .returned (.float .f32 r) ∧ Fv .f32 r (qu (some (fI p)) (some (fI q))) ∧ ∃ hs d, v2 = Lo.mkW W hs d := by
  obtain ⟨u0, _, rfl, e0, u1, _, rfl, e1, rfl⟩ := hu
  rw [Lo.VR_int e0, Lo.VR_int e1]
  exact (share_any p q v).mono fun e' w' ⟨r, m, h1, h2, h3⟩ => ⟨r, h1, h2.out, by subst h3; exact Lo.drewG m hv⟩
set_option maxHeartbeats 2000000 in
set_option maxRecDepth 100000 in
theorem implLevel_any (e : EnvN) (S : O) (held n : Int) (w : World) (hS : Hid (Fv .f32 e.s S)) (ha : inR e.a 0 1000) (hd : inR e.d 0 1000) (hr : inR e.r 0 1000) (hh : inR held 0 4000) (hn : inR n 0 4000) :
    Calls Try.prog 73 #[e.val, .int .i64 held, .int .i64 n] w fun e' w' => ∃ r, e' = .returned (.float .f32 r) ∧ Hid (Fv .f32 r (lvlO e.a e.d S e.r held n)) ∧ w.Since w.heap.size w' := by
  have H1 := Lib.hid (fun w => implHeld_since e S n w hS ha hd hn)
  have H2 := Lib.hid (fun w => implHeld_since e S held w hS ha hd hh)
  have hx := heldO_ex e.a e.d held hS
  obtain ⟨W, hW⟩ : ∃ W, W = w.alloc (envB e) := ⟨_, rfl⟩
  have hA : EnvAt W w.heap.size e := by rw [hW]; exact EnvAt.new w e
  have S0 : Hid (w.Since w.heap.size W) := Lib.hid (by rw [hW]; exact (World.Since.refl _ _).alloc (Nat.le_refl _) _)
  have cG : ∀ hs d, EnvAt (Lo.mkW W hs d) w.heap.size e := fun hs d => hA.since (Lo.mkW_since W hs d) hA.lt
  have z0 := hA.lt
  obtain ⟨a, d, s, r⟩ := e
  simp only [envB] at hW
  have CG := Lib.hid cG; have HA := Lib.hid hA; clear cG hA
  simp only [inR, EnvN.val] at *
  have k1 := fv1
  unfold lvlO
  by_cases h1 : n < held
  · rw [if_pos h1]
    obtain ⟨_, c0, c1, c2, c3⟩ := HA.out
    go_enter Try.func73, Try.ntmps73
    go_wp2_with fail
    rw [← hW]; clear hW
    refine (H1.out _).mono ?_
    rintro e w1 ⟨x1, rfl, hx1, hs1⟩
    have HS1 := Lib.hid hs1; clear hs1
    go_wp2
    go_ret
    exact ⟨_, rfl, hx1, since_step S0.out HS1.out⟩
  · rw [if_neg h1]
    by_cases h2 : n - held < r
    · rw [if_pos h2]
      obtain ⟨_, c0, c1, c2, c3⟩ := HA.out
      go_enter Try.func73, Try.ntmps73
      go_wp2_with fail
      rw [← hW]; clear hW
      refine Lo.wp_looseG_all [23, 27, 28, 29, 6] (by kernel_rfl) (by kernel_rfl) ?_
      repeat (first
        | (refine Lo.wpL_loadRow rfl 46 (.tmp 3) rfl (by decide) w.heap.size 0 rfl [.int .i64 a, .int .i64 d, .float .f32 s, .int .i64 r] _ Try.underlying46 rfl (by kernel_rfl) (fun v ⟨hs, dd, hv⟩ => hv ▸ (CG.out hs dd).range) ?_; simp only [Act.put, List.setIfInBounds_toArray, List.set_cons_succ, List.set_cons_zero])
        | (refine Lo.wpL_load1 rfl 2 (.tmp 25) rfl (by decide) ⟨w.heap.size, 3, none⟩ rfl (.int .i64 r) (fun v ⟨hs, dd, hv⟩ => hv ▸ (CG.out hs dd).load3) ?_; simp only [Act.put, List.setIfInBounds_toArray, List.set_cons_succ, List.set_cons_zero])
        | (refine Lo.wpG_callV rfl 107 [.tmp 21, .tmp 22] [.agg #[.int .i64 a, .int .i64 d, .float .f32 s, .int .i64 r], .int .i64 held] _ rfl (by decide) (callsEnter 107 Try.f107 _ (by kernel_rfl) (by kernel_rfl) rfl) .f32 _ rfl (held_hc W ⟨a, d, s, r⟩ S held hS ha hd hh) hx ?_; intro rr hrr; simp only [Act.put, List.setIfInBounds_toArray, List.set_cons_succ, List.set_cons_zero])
        | (refine Lo.wpG_callV rfl 108 [.tmp 24, .tmp 26] [.int .i64 (n - held), .int .i64 r] _ rfl (by decide) (callsEnter 108 Try.f108 _ (by kernel_rfl) (by kernel_rfl) rfl) .f32 _ rfl (shareG_hc W (n - held) r) (qu_ex (n - held) r) ?_; intro rr hrr; simp only [Act.put, List.setIfInBounds_toArray, List.set_cons_succ, List.set_cons_zero])
        | (refine Lo.wpL_move rfl _ (.inl rfl) (by decide) ?_; simp only [Act.put, List.setIfInBounds_toArray, List.set_cons_succ, List.set_cons_zero])
        | (refine Lo.wpL_move rfl _ (.inr rfl) (by decide) ?_; simp only [Act.put, List.setIfInBounds_toArray, List.set_cons_succ, List.set_cons_zero])
        | (refine Lo.wpG_fop (fun _ m h => Lo.drewG m h) rfl _ _ _ _ rfl rfl (by decide) _ _ _ _ _ rfl rfl (by assumption) (by assumption) ?_; intro rr hrr; simp only [Act.put, List.setIfInBounds_toArray, List.set_cons_succ, List.set_cons_zero])
        | (refine Lo.wpL_quiet rfl (by decide) (fun K hK => ?_); go_big_quiet_op; first | (refine hK _ ?_; clear hK K) | (refine ⟨_, fun _ _ _ _ => rfl, hK _ ?_⟩; clear hK K)))
      refine Lo.wpL_nil ?_; intro hsG dG
      refine Lo.after_fl rfl (by assumption) ?_; intro q23 h23; simp only [Act.put, List.setIfInBounds_toArray, List.set_cons_succ, List.set_cons_zero]
      refine Lo.after_fl rfl (by assumption) ?_; intro q27 h27; simp only [Act.put, List.setIfInBounds_toArray, List.set_cons_succ, List.set_cons_zero]
      refine Lo.after_fl rfl (by assumption) ?_; intro q28 h28; simp only [Act.put, List.setIfInBounds_toArray, List.set_cons_succ, List.set_cons_zero]
      refine Lo.after_fl rfl (by assumption) ?_; intro q29 h29; simp only [Act.put, List.setIfInBounds_toArray, List.set_cons_succ, List.set_cons_zero]
      refine Lo.after_fl rfl (by assumption) ?_; intro q6 h6; simp only [Act.put, List.setIfInBounds_toArray, List.set_cons_succ, List.set_cons_zero]
      refine Lo.after_nil ?_; intro nq
      generalize hwG : Lo.mkW _ hsG dG = wG
      replace hwG := Lo.sinceG hwG
      clear hsG dG
      have HSG := Lib.hid hwG; clear hwG
      go_wp2
      go_ret
      exact ⟨_, rfl, h6, since_step S0.out HSG.out⟩
    · rw [if_neg h2]
      obtain ⟨_, c0, c1, c2, c3⟩ := HA.out
      clear hW
      go_enter Try.func73, Try.ntmps73
      go_wp2
      go_ret
      exact ⟨_, rfl, fv0, by (repeat (first | (with_reducible refine Fl.sinDrew ?_) | (with_reducible refine World.Since.drew ?_) | (with_reducible refine Fl.sinSet ?_ ?_; rotate_left) | (with_reducible refine Fl.sinAlloc ?_ ?_; rotate_left) | with_reducible exact World.Since.refl _ _ | with_reducible assumption | (with_reducible refine Fl.sinStep (by with_reducible assumption) ?_))); all_goals (first | omega | (simp; done) | (simp; omega) | (simp [go_sem]; done) | (simp [go_sem]; omega))⟩
def PVB (F : O) (b : Bool) (w : World) (e : Ending) (w' : World) : Prop := ∃ r, e = .returned (.tuple #[.float .f32 r, .bool b]) ∧ Hid (Fv .f32 r F) ∧ w.Since w.heap.size w'
def okLvl (e : EnvN) (held n : Int) : Bool := okEnv e.a e.d e.r && inB held 0 4000 && inB n 0 4000
def lvlR (e : EnvN) (held n : Int) (b : Bool) : O := if b then lvlO e.a e.d (ab .f32 e.s) e.r held n else some 0
theorem inR_of {x lo hi : Int} (h : inB x lo hi = true) : inR x lo hi := by simpa [inB, inR] using h
theorem env_in {e : EnvN} (h : okEnv e.a e.d e.r = true) : inR e.a 0 1000 ∧ inR e.d 0 1000 ∧ inR e.r 0 1000 := by
  simp only [okEnv, Bool.and_eq_true] at h
  exact ⟨inR_of h.1.1, inR_of h.1.2, inR_of h.2⟩
theorem allowB (a b x : Int) (bb : Bool) (w : World) (h : inB x a b = bb) :
    Calls Try.prog 72 #[.agg #[.int .i64 a, .int .i64 b], .int .i64 x] w fun e w' => e = .returned (.bool bb) ∧ w.alloc (.cells #[.int .i64 a, .int .i64 b] 98) = w' := by subst h; exact allowX_any a b x w
set_option maxHeartbeats 4000000 in
set_option maxRecDepth 100000 in
theorem specLevelAt_b (e : EnvN) (held n : Int) (b : Bool) (w : World) (hs : e.s < 4294967296) (hb : okLvl e held n = b) : Calls Try.prog 32 #[e.val, .int .i64 held, .int .i64 n] w (PVB (lvlR e held n b) b w) := by
  obtain ⟨W, hW⟩ : ∃ W, W = w.alloc (envB e) := ⟨_, rfl⟩
  have hA : EnvAt W w.heap.size e := by rw [hW]; exact EnvAt.new w e
  have S0 : Hid (w.Since w.heap.size W) := Lib.hid (by rw [hW]; exact (World.Since.refl _ _).alloc (Nat.le_refl _) _)
  simp only [envB] at hW
  have HA := Lib.hid hA; clear hA
  unfold okLvl at hb
  cases h1 : okEnv e.a e.d e.r <;> cases h2 : inB held 0 4000 <;> cases h3 : inB n 0 4000
  all_goals
    rw [h1, h2, h3] at hb
    simp only [Bool.and_true, Bool.and_false, Bool.true_and, Bool.false_and] at hb
    subst hb
    have H1 := Lib.hid (specEnv_b w.heap.size e _ W HA.out h1)
  case true.true.true =>
    obtain ⟨i1, i2, i3⟩ := env_in h1
    have H3 := Lib.hid (specLevel_any w.heap.size e (ab .f32 e.s) held n W HA.out (Lib.hid ⟨hs, rfl⟩) i1 i2 i3 (inR_of h2) (inR_of h3))
    simp only [lvlR, if_true]
    clear i1 i2 i3 h1
    obtain ⟨a, d, s, r⟩ := e
    simp only [EnvN.val] at *
    go_enter Try.func32, Try.ntmps32
    go_wp2_with fail
    rw [← hW]; clear hW
    go_at_call 69
    refine H1.out.mono ?_; rintro e w1 ⟨rfl, rfl⟩
    go_wp2_with (first | (go_at_call 65; with_reducible refine (specHold_b held 0 4000 _ _ h2).mono ?_; rintro e w1 ⟨rfl, rfl⟩) | (go_at_call 65; with_reducible refine (specHold_b n 0 4000 _ _ h3).mono ?_; rintro e w1 ⟨rfl, rfl⟩) | (go_at_call 71; refine H3.out.mono ?_; rintro e w1 ⟨x1, m1, rfl, hx1, rfl⟩))
    go_ret2
    exact ⟨_, rfl, hx1, since_drewN S0.out _⟩
  all_goals
    simp only [lvlR, Bool.false_eq_true, if_false]
    clear h1
    obtain ⟨a, d, s, r⟩ := e
    simp only [EnvN.val] at *
    go_enter Try.func32, Try.ntmps32
    go_wp2_with fail
    rw [← hW]; clear hW
    go_at_call 69
    refine H1.out.mono ?_; rintro e w1 ⟨rfl, rfl⟩
    go_wp2_with (first | (go_at_call 65; with_reducible refine (specHold_b held 0 4000 _ _ h2).mono ?_; rintro e w1 ⟨rfl, rfl⟩) | (go_at_call 65; with_reducible refine (specHold_b n 0 4000 _ _ h3).mono ?_; rintro e w1 ⟨rfl, rfl⟩))
    go_ret2
    exact ⟨_, rfl, fv0, S0.out⟩
set_option maxHeartbeats 4000000 in
set_option maxRecDepth 100000 in
theorem implLevelAt_b (e : EnvN) (held n : Int) (b : Bool) (w : World) (hs : e.s < 4294967296) (hb : okLvl e held n = b) : Calls Try.prog 33 #[e.val, .int .i64 held, .int .i64 n] w (PVB (lvlR e held n b) b w) := by
  obtain ⟨W, hW⟩ : ∃ W, W = (w.alloc (envB e)).alloc (lim 0 4000) := ⟨_, rfl⟩
  have hA : EnvAt W w.heap.size e := by rw [hW]; exact (EnvAt.new w e).since ((World.Since.refl (w.heap.size + 1) _).alloc (by simp) _) (by omega)
  have S0 : Hid (w.Since w.heap.size W) := Lib.hid (by rw [hW]; exact ((World.Since.refl _ _).alloc (Nat.le_refl _) _).alloc (by simp) _)
  have z0 : w.heap.size + 1 < W.heap.size := by rw [hW]; simp
  have hc0 : W.cell? ⟨w.heap.size + 1, 0, none⟩ = some (.int .i64 0) := by rw [hW]; simp [lim, go_sem]
  have hc1 : W.cell? ⟨w.heap.size + 1, 1, none⟩ = some (.int .i64 4000) := by rw [hW]; simp [lim, go_sem]
  simp only [envB, lim] at hW
  have HA := Lib.hid hA; have HC0 := Lib.hid hc0; have HC1 := Lib.hid hc1; clear hA hc0 hc1
  unfold okLvl at hb
  cases h1 : okEnv e.a e.d e.r <;> cases h2 : inB held 0 4000 <;> cases h3 : inB n 0 4000
  all_goals
    rw [h1, h2, h3] at hb
    simp only [Bool.and_true, Bool.and_false, Bool.true_and, Bool.false_and] at hb
    subst hb
    have H1 := Lib.hid (fun w => implEnv_b e _ w h1)
  case true.true.true =>
    obtain ⟨i1, i2, i3⟩ := env_in h1
    have H3 := Lib.hid (fun w => implLevel_any e (ab .f32 e.s) held n w (Lib.hid ⟨hs, rfl⟩) i1 i2 i3 (inR_of h2) (inR_of h3))
    simp only [lvlR, if_true]
    clear i1 i2 i3 h1
    obtain ⟨a, d, s, r⟩ := e
    simp only [EnvN.val] at *
    go_enter Try.func33, Try.ntmps33
    go_wp2_with fail
    rw [← hW]; clear hW
    go_at_call 31
    refine (H1.out _).mono ?_; rintro e w1 ⟨rfl, hs1⟩
    obtain ⟨_, c0, c1, c2, c3⟩ := HA.out.since hs1 (by omega)
    have d0 := (hs1.cell (a := ⟨w.heap.size + 1, 0, none⟩) z0).trans HC0.out
    have d1 := (hs1.cell (a := ⟨w.heap.size + 1, 1, none⟩) z0).trans HC1.out
    have z1 := hs1.size; have z2 : w.heap.size + 1 < w1.heap.size := (by omega); have z3 : w.heap.size < w1.heap.size := (by omega)
    have HS1 := Lib.hid hs1; clear hs1
    simp only at c0 c1 c2 c3
    go_wp2_with (first | (go_at_call 72; with_reducible refine (allowB 0 4000 held _ _ h2).mono ?_; rintro e w1 ⟨rfl, rfl⟩) | (go_at_call 72; with_reducible refine (allowB 0 4000 n _ _ h3).mono ?_; rintro e w1 ⟨rfl, rfl⟩))
    refine (H3.out _).mono ?_; rintro e w2 ⟨x1, rfl, hx1, hs2⟩
    have HS2 := Lib.hid hs2; clear hs2
    go_wp2
    go_ret2
    exact ⟨_, rfl, hx1, S0.out.trans (since_mono (since_step HS1.out (since_step (by (repeat (first | (with_reducible refine Fl.sinDrew ?_) | (with_reducible refine World.Since.drew ?_) | (with_reducible refine Fl.sinSet ?_ ?_; rotate_left) | (with_reducible refine Fl.sinAlloc ?_ ?_; rotate_left) | with_reducible exact World.Since.refl _ _ | with_reducible assumption | (with_reducible refine Fl.sinStep (by with_reducible assumption) ?_))); all_goals (first | omega | (simp; done) | (simp; omega) | (simp [go_sem]; done) | (simp [go_sem]; omega))) HS2.out)) (by omega))⟩
  all_goals
    simp only [lvlR, Bool.false_eq_true, if_false]
    clear h1
    obtain ⟨a, d, s, r⟩ := e
    simp only [EnvN.val] at *
    go_enter Try.func33, Try.ntmps33
    go_wp2_with fail
    rw [← hW]; clear hW
    go_at_call 31
    refine (H1.out _).mono ?_; rintro e w1 ⟨rfl, hs1⟩
    obtain ⟨_, c0, c1, c2, c3⟩ := HA.out.since hs1 (by omega)
    have d0 := (hs1.cell (a := ⟨w.heap.size + 1, 0, none⟩) z0).trans HC0.out
    have d1 := (hs1.cell (a := ⟨w.heap.size + 1, 1, none⟩) z0).trans HC1.out
    have z1 := hs1.size; have z2 : w.heap.size + 1 < w1.heap.size := (by omega); have z3 : w.heap.size < w1.heap.size := (by omega)
    have HS1 := Lib.hid hs1; clear hs1
    simp only at c0 c1 c2 c3
    go_wp2_with (first | (go_at_call 72; with_reducible refine (allowB 0 4000 held _ _ h2).mono ?_; rintro e w1 ⟨rfl, rfl⟩) | (go_at_call 72; with_reducible refine (allowB 0 4000 n _ _ h3).mono ?_; rintro e w1 ⟨rfl, rfl⟩))
    go_ret2
    exact ⟨_, rfl, fv0, S0.out.trans (since_mono (since_step HS1.out (by (repeat (first | (with_reducible refine Fl.sinDrew ?_) | (with_reducible refine World.Since.drew ?_) | (with_reducible refine Fl.sinSet ?_ ?_; rotate_left) | (with_reducible refine Fl.sinAlloc ?_ ?_; rotate_left) | with_reducible exact World.Since.refl _ _ | with_reducible assumption | (with_reducible refine Fl.sinStep (by with_reducible assumption) ?_))); all_goals (first | omega | (simp; done) | (simp; omega) | (simp [go_sem]; done) | (simp [go_sem]; omega)))) (by omega))⟩
end Go.Proofs.Ytlodnikboekdpaa
