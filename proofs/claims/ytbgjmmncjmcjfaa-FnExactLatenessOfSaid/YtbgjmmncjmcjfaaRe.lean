/- Walks of laws whose arguments or results are lists. -/
import Derived.Test.YtbgjmmncjmcjfaaHb
import Derived.Test.YtbgjmmncjmcjfaaRa
import Derived.Test.YtbgjmmncjmcjfaaRz
set_option linter.unusedVariables false
set_option linter.unusedSimpArgs false
namespace Go.Proofs.Ytbgjmmncjmcjfaa
open Fl Go.RowKit
set_option maxHeartbeats 16000000 in
set_option maxRecDepth 100000 in
theorem lawValidChain_gen (A0 : Option Addr) (n0 c0 : Nat) (x0 : Nat → EffectR) (rb0 : Bool) (w : World)
    (h0 : EffectR.Ts w w.heap.size A0 n0 x0) (hn0 : n0 ≤ 1048576) 
    (hk0 : ∀ k, k < n0 → (x0 k).ok)
    (hs0 : ∀ k, k < n0 → (x0 k).sn ≤ 1048576) (ht0 : EffectR.tot x0 n0 ≤ 1048576) (hf0 : (n0 : Int) + EffectR.tot x0 n0 ≤ 1048576)
    (hsp : ∀ (v : World) (b0 : Nat) (e0 : Nat → EffectR), EffectR.Ts v v.heap.size (some ⟨b0, 0, none⟩) n0 e0 → (∀ k, k < n0 → (e0 k).like (x0 k)) → Calls Try.prog 21 #[.slice (some ⟨b0, 0, none⟩) n0 n0] v (PB rb0 v))
    (him : ∀ (v : World) (b0 : Nat) (e0 : Nat → EffectR), EffectR.Ts v v.heap.size (some ⟨b0, 0, none⟩) n0 e0 → (∀ k, k < n0 → (e0 k).like (x0 k)) → Calls Try.prog 23 #[.slice (some ⟨b0, 0, none⟩) n0 n0] v (PB rb0 v)) :
    Calls Try.prog 4 #[.slice A0 n0 c0] w fun e w' => e = .returned (.bool true) ∧ w.Since w.heap.size w' := by
  have S0 : Hid (w.Since w.heap.size w) := Lib.hid (World.Since.refl _ _)
  have F0 : Hid (EffectR.Ts w w.heap.size A0 n0 x0) := Lib.hid (h0.now S0.out); clear h0
  have hd0 : decide ((1048576 : Int) < n0) = false := decide_eq_false (by omega)
  have HSP := Lib.hid hsp; have HIM := Lib.hid him; clear hsp him
  have hz0 : decide ((1048576 : Int) - n0 - (EffectR.tot x0 n0 : Nat) < 0) = false := decide_eq_false (by omega)
  have HK0 := Lib.hid hk0; clear hk0
  go_enter Try.func4, Try.ntmps4
  go_wp2_with fail
  have S : Hid (w.Since w.heap.size w) := Lib.hid (World.Since.refl _ _)
  have LV : Hid (He w.heap.size w []) := Lib.hid trivial
  go_at_call 20
  refine (szEffectS_any A0 n0 c0 x0 _ _ (F0.out.1.now S.out) (fun k hk => Nat.le_trans (hs0 k hk) (by decide)) (by omega) (by omega) _ (if_pos hf0).symm).mono ?_; rintro e wz0 ⟨rfl, hs⟩
  have S' := Lib.hid (since_step S.out hs); clear S; have S := S'; clear S'
  have LV' := Lib.hid (LV.out.since hs); clear LV; have LV := LV'; clear LV'; clear hs
  go_wp2_with fail
  go_at_call 22
  refine (toEffectS_any A0 n0 c0 x0 w _ F0.out S.out hn0 hs0).mono ?_
  rintro e v1 ⟨rfl, e_s0, hl, hg, hs⟩
  have HL_s0 := Lib.hid hl; clear hl
  have LV' := Lib.hid (LV.out.new hs hg S.out.size); clear LV; have LV := LV'; clear LV'
  have S' := Lib.hid (since_step S.out hs); clear S; have S := S'; clear S'
  clear hs hg
  go_wp2_with fail
  go_at_call 21
  refine (HSP.out _ _ e_s0 (EffectR.read (LV.out.1.1)) HL_s0.out).mono ?_
  rintro e v2 ⟨rfl, hs⟩
  have LV' := Lib.hid ((LV.out.2).since hs); clear LV; have LV := LV'; clear LV'
  have S' := Lib.hid (since_step S.out hs); clear S; have S := S'; clear S'
  clear hs
  go_wp2_with fail
  go_at_call 22
  refine (toEffectS_any A0 n0 c0 x0 w _ F0.out S.out hn0 hs0).mono ?_
  rintro e v3 ⟨rfl, e_y0, hl, hg, hs⟩
  have HL_y0 := Lib.hid hl; clear hl
  have LV' := Lib.hid (LV.out.new hs hg S.out.size); clear LV; have LV := LV'; clear LV'
  have S' := Lib.hid (since_step S.out hs); clear S; have S := S'; clear S'
  clear hs hg
  go_wp2_with fail
  go_at_call 23
  refine (HIM.out _ _ e_y0 (EffectR.read (LV.out.1.1)) HL_y0.out).mono ?_
  rintro e v4 ⟨rfl, hs⟩
  have LV' := Lib.hid ((LV.out).since hs); clear LV; have LV := LV'; clear LV'
  have S' := Lib.hid (since_step S.out hs); clear S; have S := S'; clear S'
  clear hs
  go_wp2_with fail
  go_at_call 22
  refine (toEffectS_any A0 n0 c0 x0 w _ F0.out S.out hn0 hs0).mono ?_
  rintro e v5 ⟨rfl, e_z0, hl, hg, hs⟩
  have HL_z0 := Lib.hid hl; clear hl
  have LV' := Lib.hid (LV.out.new hs hg S.out.size); clear LV; have LV := LV'; clear LV'
  have S' := Lib.hid (since_step S.out hs); clear S; have S := S'; clear S'
  clear hs hg
  go_wp2_with fail
  go_at_call 24
  refine (eqEffectS_any _ _ n0 _ _ e_y0 e_z0 _ (EffectR.read (LV.out.2.1.1)) (EffectR.read (LV.out.1.1)) hn0 (fun k hk => by rw [(HL_y0.out k hk).1]; exact hs0 k hk) (fun k hk => ⟨EffectR.like_ok (HL_y0.out k hk) (HK0.out k hk), EffectR.like_tr (HL_y0.out k hk) (HL_z0.out k hk)⟩)).mono ?_
  rintro e v6 ⟨rfl, hs⟩
  have S' := Lib.hid (since_step S.out hs); clear S; have S := S'; clear S'
  have LV' := Lib.hid (LV.out.since hs); clear LV; have LV := LV'; clear LV'
  clear hs
  have LV' := Lib.hid LV.out.2; clear LV; have LV := LV'; clear LV'
  go_wp2_with fail
  go_ret
  exact ⟨rfl, S.out⟩
set_option maxHeartbeats 2000000 in
set_option maxRecDepth 100000 in
theorem lawValidChain_big (A0 : Option Addr) (n0 c0 : Nat) (x0 : Nat → EffectR) (w : World) (hr0 : Rs EffectR.cells 3 w w.heap.size A0 n0 x0) (hx0 : ∀ k, k < n0 → (x0 k).sn ≤ 9223372036854775807) (hb0 : n0 ≤ 9223372036854775807) (hf0 : ¬ (n0 : Int) + EffectR.tot x0 n0 ≤ 1048576)
    : Calls Try.prog 4 #[.slice A0 n0 c0] w fun e w' => e = .returned (.bool true) ∧ w.Since w.heap.size w' := by
  have HR0 := Lib.hid hr0; clear hr0
  by_cases h : (1048576 : Int) < n0
  · go_enter Try.func4, Try.ntmps4
    go_wp2_with (go_at_call 20; refine (szEffectS_big A0 n0 c0 _ _ (by omega) (by omega) (by omega) hb0).mono ?_; rintro e wz ⟨rfl, hs0⟩)
    go_ret
    exact ⟨rfl, hs0⟩
  · go_enter Try.func4, Try.ntmps4
    go_wp2_with (go_at_call 20; refine (szEffectS_any A0 n0 c0 x0 _ _ HR0.out (fun k hk => hx0 k hk) (by omega) (by omega) _ (if_neg hf0).symm).mono ?_; rintro e wz ⟨rfl, hs0⟩)
    go_ret
    exact ⟨rfl, hs0⟩
set_option maxHeartbeats 16000000 in
set_option maxRecDepth 100000 in
theorem lawLatenessOf_gen (A0 : Option Addr) (n0 c0 : Nat) (x0 : Nat → EffectR) (ri0 : Int) (rb1 : Bool) (w : World)
    (h0 : EffectR.Ts w w.heap.size A0 n0 x0) (hn0 : n0 ≤ 1048576) 
    (hk0 : ∀ k, k < n0 → (x0 k).ok)
    (hs0 : ∀ k, k < n0 → (x0 k).sn ≤ 1048576) (ht0 : EffectR.tot x0 n0 ≤ 1048576) (hf0 : (n0 : Int) + EffectR.tot x0 n0 ≤ 1048576)
    (hsp : ∀ (v : World) (b0 : Nat) (e0 : Nat → EffectR), EffectR.Ts v v.heap.size (some ⟨b0, 0, none⟩) n0 e0 → (∀ k, k < n0 → (e0 k).like (x0 k)) → Calls Try.prog 35 #[.slice (some ⟨b0, 0, none⟩) n0 n0] v (PIB ri0 rb1 v))
    (him : ∀ (v : World) (b0 : Nat) (e0 : Nat → EffectR), EffectR.Ts v v.heap.size (some ⟨b0, 0, none⟩) n0 e0 → (∀ k, k < n0 → (e0 k).like (x0 k)) → Calls Try.prog 36 #[.slice (some ⟨b0, 0, none⟩) n0 n0] v (PIB ri0 rb1 v)) :
    Calls Try.prog 7 #[.slice A0 n0 c0] w fun e w' => e = .returned (.bool true) ∧ w.Since w.heap.size w' := by
  have S0 : Hid (w.Since w.heap.size w) := Lib.hid (World.Since.refl _ _)
  have F0 : Hid (EffectR.Ts w w.heap.size A0 n0 x0) := Lib.hid (h0.now S0.out); clear h0
  have hd0 : decide ((1048576 : Int) < n0) = false := decide_eq_false (by omega)
  have HSP := Lib.hid hsp; have HIM := Lib.hid him; clear hsp him
  have hz0 : decide ((1048576 : Int) - n0 - (EffectR.tot x0 n0 : Nat) < 0) = false := decide_eq_false (by omega)
  have HK0 := Lib.hid hk0; clear hk0
  go_enter Try.func7, Try.ntmps7
  go_wp2_with fail
  have S : Hid (w.Since w.heap.size w) := Lib.hid (World.Since.refl _ _)
  have LV : Hid (He w.heap.size w []) := Lib.hid trivial
  go_at_call 20
  refine (szEffectS_any A0 n0 c0 x0 _ _ (F0.out.1.now S.out) (fun k hk => Nat.le_trans (hs0 k hk) (by decide)) (by omega) (by omega) _ (if_pos hf0).symm).mono ?_; rintro e wz0 ⟨rfl, hs⟩
  have S' := Lib.hid (since_step S.out hs); clear S; have S := S'; clear S'
  have LV' := Lib.hid (LV.out.since hs); clear LV; have LV := LV'; clear LV'; clear hs
  go_wp2_with fail
  go_at_call 22
  refine (toEffectS_any A0 n0 c0 x0 w _ F0.out S.out hn0 hs0).mono ?_
  rintro e v1 ⟨rfl, e_s0, hl, hg, hs⟩
  have HL_s0 := Lib.hid hl; clear hl
  have LV' := Lib.hid (LV.out.new hs hg S.out.size); clear LV; have LV := LV'; clear LV'
  have S' := Lib.hid (since_step S.out hs); clear S; have S := S'; clear S'
  clear hs hg
  go_wp2_with fail
  go_at_call 35
  refine (HSP.out _ _ e_s0 (EffectR.read (LV.out.1.1)) HL_s0.out).mono ?_
  rintro e v2 ⟨rfl, hs⟩
  have LV' := Lib.hid ((LV.out.2).since hs); clear LV; have LV := LV'; clear LV'
  have S' := Lib.hid (since_step S.out hs); clear S; have S := S'; clear S'
  clear hs
  go_wp2_with fail
  go_at_call 22
  refine (toEffectS_any A0 n0 c0 x0 w _ F0.out S.out hn0 hs0).mono ?_
  rintro e v3 ⟨rfl, e_y0, hl, hg, hs⟩
  have HL_y0 := Lib.hid hl; clear hl
  have LV' := Lib.hid (LV.out.new hs hg S.out.size); clear LV; have LV := LV'; clear LV'
  have S' := Lib.hid (since_step S.out hs); clear S; have S := S'; clear S'
  clear hs hg
  go_wp2_with fail
  go_at_call 36
  refine (HIM.out _ _ e_y0 (EffectR.read (LV.out.1.1)) HL_y0.out).mono ?_
  rintro e v4 ⟨rfl, hs⟩
  have LV' := Lib.hid ((LV.out).since hs); clear LV; have LV := LV'; clear LV'
  have S' := Lib.hid (since_step S.out hs); clear S; have S := S'; clear S'
  clear hs
  go_wp2_with fail
  go_at_call 22
  refine (toEffectS_any A0 n0 c0 x0 w _ F0.out S.out hn0 hs0).mono ?_
  rintro e v5 ⟨rfl, e_z0, hl, hg, hs⟩
  have HL_z0 := Lib.hid hl; clear hl
  have LV' := Lib.hid (LV.out.new hs hg S.out.size); clear LV; have LV := LV'; clear LV'
  have S' := Lib.hid (since_step S.out hs); clear S; have S := S'; clear S'
  clear hs hg
  go_wp2_with fail
  go_at_call 24
  refine (eqEffectS_any _ _ n0 _ _ e_y0 e_z0 _ (EffectR.read (LV.out.2.1.1)) (EffectR.read (LV.out.1.1)) hn0 (fun k hk => by rw [(HL_y0.out k hk).1]; exact hs0 k hk) (fun k hk => ⟨EffectR.like_ok (HL_y0.out k hk) (HK0.out k hk), EffectR.like_tr (HL_y0.out k hk) (HL_z0.out k hk)⟩)).mono ?_
  rintro e v6 ⟨rfl, hs⟩
  have S' := Lib.hid (since_step S.out hs); clear S; have S := S'; clear S'
  have LV' := Lib.hid (LV.out.since hs); clear LV; have LV := LV'; clear LV'
  clear hs
  have LV' := Lib.hid LV.out.2; clear LV; have LV := LV'; clear LV'
  go_wp2_with fail
  go_ret
  exact ⟨rfl, S.out⟩
set_option maxHeartbeats 2000000 in
set_option maxRecDepth 100000 in
theorem lawLatenessOf_big (A0 : Option Addr) (n0 c0 : Nat) (x0 : Nat → EffectR) (w : World) (hr0 : Rs EffectR.cells 3 w w.heap.size A0 n0 x0) (hx0 : ∀ k, k < n0 → (x0 k).sn ≤ 9223372036854775807) (hb0 : n0 ≤ 9223372036854775807) (hf0 : ¬ (n0 : Int) + EffectR.tot x0 n0 ≤ 1048576)
    : Calls Try.prog 7 #[.slice A0 n0 c0] w fun e w' => e = .returned (.bool true) ∧ w.Since w.heap.size w' := by
  have HR0 := Lib.hid hr0; clear hr0
  by_cases h : (1048576 : Int) < n0
  · go_enter Try.func7, Try.ntmps7
    go_wp2_with (go_at_call 20; refine (szEffectS_big A0 n0 c0 _ _ (by omega) (by omega) (by omega) hb0).mono ?_; rintro e wz ⟨rfl, hs0⟩)
    go_ret
    exact ⟨rfl, hs0⟩
  · go_enter Try.func7, Try.ntmps7
    go_wp2_with (go_at_call 20; refine (szEffectS_any A0 n0 c0 x0 _ _ HR0.out (fun k hk => hx0 k hk) (by omega) (by omega) _ (if_neg hf0).symm).mono ?_; rintro e wz ⟨rfl, hs0⟩)
    go_ret
    exact ⟨rfl, hs0⟩
end Go.Proofs.Ytbgjmmncjmcjfaa
