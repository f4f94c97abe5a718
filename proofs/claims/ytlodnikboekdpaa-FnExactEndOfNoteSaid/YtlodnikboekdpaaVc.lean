/- Walks of laws whose results are lists. -/
import Derived.Test.YtlodnikboekdpaaLy
import Derived.Test.YtlodnikboekdpaaVb
set_option linter.unusedVariables false
set_option linter.unusedSimpArgs false
namespace Go.Proofs.Ytlodnikboekdpaa
open Fl Go.RowKit
set_option maxHeartbeats 16000000 in
set_option maxRecDepth 100000 in
theorem lawValidEnvelope_gen (a0 : EnvN) (rb0 : Bool) (w : World)
     
    (hsp : ∀ (v : World) (_ : Unit), Calls Try.prog 29 #[a0.val] v (PB rb0 v))
    (him : ∀ (v : World) (_ : Unit), Calls Try.prog 31 #[a0.val] v (PB rb0 v)) :
    Calls Try.prog 7 #[a0.val] w fun e w' => e = .returned (.bool true) ∧ w.Since w.heap.size w' := by
  obtain ⟨a0_0, a0_1, a0_2, a0_3⟩ := a0
  have hto0 := toEnvelope_any ⟨a0_0, a0_1, a0_2, a0_3⟩
  simp only [EnvN.val] at hto0 hsp him ⊢
  have HTO0 := Lib.hid hto0; clear hto0
  obtain ⟨W, hW⟩ : ∃ W, W = (w.alloc (.cells #[.int .i64 a0_0, .int .i64 a0_1, .float .f32 a0_2, .int .i64 a0_3] 44)) := ⟨_, rfl⟩
  have S0 : Hid (w.Since w.heap.size W) := Lib.hid (by rw [hW]; exact (World.Since.refl _ _).alloc (Nat.le_refl _) _)
  have hz : w.heap.size < W.heap.size := by rw [hW]; simp
  have BX0_0 : Hid (W.cell? ⟨w.heap.size, 0, none⟩ = some (.int .i64 a0_0)) := Lib.hid (by rw [hW]; simp [go_sem])
  have BX0_1 : Hid (W.cell? ⟨w.heap.size, 1, none⟩ = some (.int .i64 a0_1)) := Lib.hid (by rw [hW]; simp [go_sem])
  have BX0_2 : Hid (W.cell? ⟨w.heap.size, 2, none⟩ = some (.float .f32 a0_2)) := Lib.hid (by rw [hW]; simp [go_sem])
  have BX0_3 : Hid (W.cell? ⟨w.heap.size, 3, none⟩ = some (.int .i64 a0_3)) := Lib.hid (by rw [hW]; simp [go_sem])
  have HSP := Lib.hid hsp; have HIM := Lib.hid him; clear hsp him
  go_enter Try.func7, Try.ntmps7
  go_wp2_with fail
  rw [← hW]
  have S : Hid (W.Since W.heap.size W) := Lib.hid (World.Since.refl _ _)
  have LV : Hid (Hx W.heap.size W []) := Lib.hid trivial
  go_at_call 30
  refine (HTO0.out _).mono ?_
  rintro e v1 ⟨rfl, hs⟩
  have S' := Lib.hid (since_step S.out hs); clear S; have S := S'; clear S'
  have LV' := Lib.hid (LV.out.since hs); clear LV; have LV := LV'; clear LV'
  clear hs
  go_wp2_with fail
  go_at_call 29
  refine (HSP.out _ () ).mono ?_
  rintro e v2 ⟨rfl, hs⟩
  have LV' := Lib.hid ((LV.out).since hs); clear LV; have LV := LV'; clear LV'
  have S' := Lib.hid (since_step S.out hs); clear S; have S := S'; clear S'
  clear hs
  have bx0_0 := (S.out.cell (a := ⟨w.heap.size, 0, none⟩) (by omega)).trans BX0_0.out
  have bx0_1 := (S.out.cell (a := ⟨w.heap.size, 1, none⟩) (by omega)).trans BX0_1.out
  have bx0_2 := (S.out.cell (a := ⟨w.heap.size, 2, none⟩) (by omega)).trans BX0_2.out
  have bx0_3 := (S.out.cell (a := ⟨w.heap.size, 3, none⟩) (by omega)).trans BX0_3.out
  go_wp2_with fail
  go_at_call 30
  refine (HTO0.out _).mono ?_
  rintro e v3 ⟨rfl, hs⟩
  clear bx0_0 bx0_1 bx0_2 bx0_3
  have S' := Lib.hid (since_step S.out hs); clear S; have S := S'; clear S'
  have LV' := Lib.hid (LV.out.since hs); clear LV; have LV := LV'; clear LV'
  clear hs
  go_wp2_with fail
  go_at_call 31
  refine (HIM.out _ () ).mono ?_
  rintro e v4 ⟨rfl, hs⟩
  have LV' := Lib.hid ((LV.out).since hs); clear LV; have LV := LV'; clear LV'
  have S' := Lib.hid (since_step S.out hs); clear S; have S := S'; clear S'
  clear hs
  go_wp2_with fail
  go_ret
  exact ⟨rfl, S0.out.trans (since_mono S.out (show w.heap.size ≤ W.heap.size by omega))⟩
set_option maxHeartbeats 16000000 in
set_option maxRecDepth 100000 in
theorem lawEndOfNote_gen (a0 : EnvN) (a1 : NotN) (ri0 : Int) (rb1 : Bool) (w : World)
     
    (hsp : ∀ (v : World) (_ : Unit), Calls Try.prog 34 #[a0.val, a1.val] v (PIB ri0 rb1 v))
    (him : ∀ (v : World) (_ : Unit), Calls Try.prog 36 #[a0.val, a1.val] v (PIB ri0 rb1 v)) :
    Calls Try.prog 9 #[a0.val, a1.val] w fun e w' => e = .returned (.bool true) ∧ w.Since w.heap.size w' := by
  obtain ⟨a0_0, a0_1, a0_2, a0_3⟩ := a0
  have hto0 := toEnvelope_any ⟨a0_0, a0_1, a0_2, a0_3⟩
  simp only [EnvN.val] at hto0 hsp him ⊢
  have HTO0 := Lib.hid hto0; clear hto0
  obtain ⟨a1_0, a1_1, a1_2, a1_3⟩ := a1
  have hto1 := toNote_any ⟨a1_0, a1_1, a1_2, a1_3⟩
  simp only [NotN.val] at hto1 hsp him ⊢
  have HTO1 := Lib.hid hto1; clear hto1
  obtain ⟨W, hW⟩ : ∃ W, W = ((w.alloc (.cells #[.int .i64 a0_0, .int .i64 a0_1, .float .f32 a0_2, .int .i64 a0_3] 44)).alloc (.cells #[.int .i64 a1_0, .int .i64 a1_1, .int .i64 a1_2, .float .f32 a1_3] 52)) := ⟨_, rfl⟩
  have S0 : Hid (w.Since w.heap.size W) := Lib.hid (by rw [hW]; exact ((World.Since.refl _ _).alloc (Nat.le_refl _) _).alloc (by simp; try omega) _)
  have hz : w.heap.size + 1 < W.heap.size := by rw [hW]; simp
  have RG0 : Hid (W.rangeAt (w.heap.size) 0 [.int .i64 a0_0, .int .i64 a0_1, .float .f32 a0_2, .int .i64 a0_3]) := Lib.hid (fun j v hj => by rw [Nat.zero_add]; match j, hj with | 0, hj => (cases hj; rw [hW]; simp [go_sem]) | 1, hj => (cases hj; rw [hW]; simp [go_sem]) | 2, hj => (cases hj; rw [hW]; simp [go_sem]) | 3, hj => (cases hj; rw [hW]; simp [go_sem]))
  have BX0_0 : Hid (W.cell? ⟨w.heap.size, 0, none⟩ = some (.int .i64 a0_0)) := Lib.hid (by rw [hW]; simp [go_sem])
  have BX0_1 : Hid (W.cell? ⟨w.heap.size, 1, none⟩ = some (.int .i64 a0_1)) := Lib.hid (by rw [hW]; simp [go_sem])
  have BX0_2 : Hid (W.cell? ⟨w.heap.size, 2, none⟩ = some (.float .f32 a0_2)) := Lib.hid (by rw [hW]; simp [go_sem])
  have BX0_3 : Hid (W.cell? ⟨w.heap.size, 3, none⟩ = some (.int .i64 a0_3)) := Lib.hid (by rw [hW]; simp [go_sem])
  have RG1 : Hid (W.rangeAt (w.heap.size + 1) 0 [.int .i64 a1_0, .int .i64 a1_1, .int .i64 a1_2, .float .f32 a1_3]) := Lib.hid (fun j v hj => by rw [Nat.zero_add]; match j, hj with | 0, hj => (cases hj; rw [hW]; simp [go_sem]) | 1, hj => (cases hj; rw [hW]; simp [go_sem]) | 2, hj => (cases hj; rw [hW]; simp [go_sem]) | 3, hj => (cases hj; rw [hW]; simp [go_sem]))
  have BX1_0 : Hid (W.cell? ⟨w.heap.size + 1, 0, none⟩ = some (.int .i64 a1_0)) := Lib.hid (by rw [hW]; simp [go_sem])
  have BX1_1 : Hid (W.cell? ⟨w.heap.size + 1, 1, none⟩ = some (.int .i64 a1_1)) := Lib.hid (by rw [hW]; simp [go_sem])
  have BX1_2 : Hid (W.cell? ⟨w.heap.size + 1, 2, none⟩ = some (.int .i64 a1_2)) := Lib.hid (by rw [hW]; simp [go_sem])
  have BX1_3 : Hid (W.cell? ⟨w.heap.size + 1, 3, none⟩ = some (.float .f32 a1_3)) := Lib.hid (by rw [hW]; simp [go_sem])
  have HSP := Lib.hid hsp; have HIM := Lib.hid him; clear hsp him
  go_enter Try.func9, Try.ntmps9
  go_wp2_with fail
  rw [← hW]
  have S : Hid (W.Since W.heap.size W) := Lib.hid (World.Since.refl _ _)
  have LV : Hid (Hx W.heap.size W []) := Lib.hid trivial
  refine Lo.wp_looseG_all [] (by kernel_rfl) (by kernel_rfl) ?_
  repeat (first
    | (refine Lo.wpL_loadRow rfl 44 _ rfl (by decide) (w.heap.size) 0 rfl [.int .i64 a0_0, .int .i64 a0_1, .float .f32 a0_2, .int .i64 a0_3] _ Try.underlying44 rfl (by kernel_rfl) (fun v ⟨hs, dd, hv⟩ => hv ▸ Lo.range_since (Lo.range_since RG0.out S.out (show w.heap.size < W.heap.size by omega)) (Lo.mkW_since _ hs dd) (Nat.lt_of_lt_of_le (show w.heap.size < W.heap.size by omega) S.out.size)) ?_; simp only [Act.put, List.setIfInBounds_toArray, List.set_cons_succ, List.set_cons_zero])
    | (refine Lo.wpG_callQ rfl 30 [.tmp _] [.agg #[.int .i64 a0_0, .int .i64 a0_1, .float .f32 a0_2, .int .i64 a0_3]] _ rfl (by decide) (callsEnter 30 Try.f30 _ (by kernel_rfl) (by kernel_rfl) rfl) rfl (.agg #[.int .i64 a0_0, .int .i64 a0_1, .float .f32 a0_2, .int .i64 a0_3]) (fun v hv => (HTO0.out v).mono fun e v2 ⟨h1, h2⟩ => ⟨h1, Lo.mkW_mkW hv h2⟩) ?_; simp only [Act.put, List.setIfInBounds_toArray, List.set_cons_succ, List.set_cons_zero])
    | (refine Lo.wpL_loadRow rfl 52 _ rfl (by decide) (w.heap.size + 1) 0 rfl [.int .i64 a1_0, .int .i64 a1_1, .int .i64 a1_2, .float .f32 a1_3] _ Try.underlying52 rfl (by kernel_rfl) (fun v ⟨hs, dd, hv⟩ => hv ▸ Lo.range_since (Lo.range_since RG1.out S.out (show w.heap.size + 1 < W.heap.size by omega)) (Lo.mkW_since _ hs dd) (Nat.lt_of_lt_of_le (show w.heap.size + 1 < W.heap.size by omega) S.out.size)) ?_; simp only [Act.put, List.setIfInBounds_toArray, List.set_cons_succ, List.set_cons_zero])
    | (refine Lo.wpG_callQ rfl 35 [.tmp _] [.agg #[.int .i64 a1_0, .int .i64 a1_1, .int .i64 a1_2, .float .f32 a1_3]] _ rfl (by decide) (callsEnter 35 Try.f35 _ (by kernel_rfl) (by kernel_rfl) rfl) rfl (.agg #[.int .i64 a1_0, .int .i64 a1_1, .int .i64 a1_2, .float .f32 a1_3]) (fun v hv => (HTO1.out v).mono fun e v2 ⟨h1, h2⟩ => ⟨h1, Lo.mkW_mkW hv h2⟩) ?_; simp only [Act.put, List.setIfInBounds_toArray, List.set_cons_succ, List.set_cons_zero])
    | (refine Lo.wpG_callQ rfl 34 [.tmp _, .tmp _] [(.agg #[.int .i64 a0_0, .int .i64 a0_1, .float .f32 a0_2, .int .i64 a0_3]), (.agg #[.int .i64 a1_0, .int .i64 a1_1, .int .i64 a1_2, .float .f32 a1_3])] _ rfl (by decide) (callsEnter 34 Try.f34 _ (by kernel_rfl) (by kernel_rfl) rfl) rfl (.tuple #[.int .i64 ri0, .bool rb1]) (fun v hv => (HSP.out v ()).mono fun e v2 ⟨h1, h2⟩ => ⟨h1, Lo.mkW_mkW hv h2⟩) ?_; simp only [Act.put, List.setIfInBounds_toArray, List.set_cons_succ, List.set_cons_zero])
    | (refine Lo.wpL_move rfl _ (.inl rfl) (by decide) ?_; simp only [Act.put, List.setIfInBounds_toArray, List.set_cons_succ, List.set_cons_zero])
    | (refine Lo.wpL_move rfl _ (.inr rfl) (by decide) ?_; simp only [Act.put, List.setIfInBounds_toArray, List.set_cons_succ, List.set_cons_zero])
    | (refine Lo.wpG_fop (fun _ m h => Lo.drewG m h) rfl _ _ _ _ rfl rfl (by decide) _ _ _ _ _ rfl rfl (by assumption) (by assumption) ?_; intro rr hrr; simp only [Act.put, List.setIfInBounds_toArray, List.set_cons_succ, List.set_cons_zero])
    | (refine Lo.wpL_quiet rfl (by decide) (fun K hK => ?_); go_big_quiet_op; first | (refine hK _ ?_; clear hK K) | (refine ⟨_, fun _ _ _ _ => rfl, hK _ ?_⟩; clear hK K)))
  refine Lo.wpL_nil ?_; intro hsG dG
  refine Lo.after_nil ?_; intro nq
  generalize hwG : Lo.mkW _ hsG dG = wG
  replace hwG := Lo.sinceG hwG
  clear hsG dG
  have hs := hwG; clear hwG
  obtain ⟨v1, hV⟩ : ∃ v, v = wG := ⟨_, rfl⟩; rw [← hV] at hs ⊢; clear hV wG
  have S' := Lib.hid (since_step S.out hs); clear S; have S := S'; clear S'
  have LV' := Lib.hid (LV.out.since hs); clear LV; have LV := LV'; clear LV'
  clear hs
  go_wp2_with fail
  refine Lo.wp_looseG_all [] (by kernel_rfl) (by kernel_rfl) ?_
  repeat (first
    | (refine Lo.wpL_loadRow rfl 44 _ rfl (by decide) (w.heap.size) 0 rfl [.int .i64 a0_0, .int .i64 a0_1, .float .f32 a0_2, .int .i64 a0_3] _ Try.underlying44 rfl (by kernel_rfl) (fun v ⟨hs, dd, hv⟩ => hv ▸ Lo.range_since (Lo.range_since RG0.out S.out (show w.heap.size < W.heap.size by omega)) (Lo.mkW_since _ hs dd) (Nat.lt_of_lt_of_le (show w.heap.size < W.heap.size by omega) S.out.size)) ?_; simp only [Act.put, List.setIfInBounds_toArray, List.set_cons_succ, List.set_cons_zero])
    | (refine Lo.wpG_callQ rfl 30 [.tmp _] [.agg #[.int .i64 a0_0, .int .i64 a0_1, .float .f32 a0_2, .int .i64 a0_3]] _ rfl (by decide) (callsEnter 30 Try.f30 _ (by kernel_rfl) (by kernel_rfl) rfl) rfl (.agg #[.int .i64 a0_0, .int .i64 a0_1, .float .f32 a0_2, .int .i64 a0_3]) (fun v hv => (HTO0.out v).mono fun e v2 ⟨h1, h2⟩ => ⟨h1, Lo.mkW_mkW hv h2⟩) ?_; simp only [Act.put, List.setIfInBounds_toArray, List.set_cons_succ, List.set_cons_zero])
    | (refine Lo.wpL_loadRow rfl 52 _ rfl (by decide) (w.heap.size + 1) 0 rfl [.int .i64 a1_0, .int .i64 a1_1, .int .i64 a1_2, .float .f32 a1_3] _ Try.underlying52 rfl (by kernel_rfl) (fun v ⟨hs, dd, hv⟩ => hv ▸ Lo.range_since (Lo.range_since RG1.out S.out (show w.heap.size + 1 < W.heap.size by omega)) (Lo.mkW_since _ hs dd) (Nat.lt_of_lt_of_le (show w.heap.size + 1 < W.heap.size by omega) S.out.size)) ?_; simp only [Act.put, List.setIfInBounds_toArray, List.set_cons_succ, List.set_cons_zero])
    | (refine Lo.wpG_callQ rfl 35 [.tmp _] [.agg #[.int .i64 a1_0, .int .i64 a1_1, .int .i64 a1_2, .float .f32 a1_3]] _ rfl (by decide) (callsEnter 35 Try.f35 _ (by kernel_rfl) (by kernel_rfl) rfl) rfl (.agg #[.int .i64 a1_0, .int .i64 a1_1, .int .i64 a1_2, .float .f32 a1_3]) (fun v hv => (HTO1.out v).mono fun e v2 ⟨h1, h2⟩ => ⟨h1, Lo.mkW_mkW hv h2⟩) ?_; simp only [Act.put, List.setIfInBounds_toArray, List.set_cons_succ, List.set_cons_zero])
    | (refine Lo.wpG_callQ rfl 36 [.tmp _, .tmp _] [(.agg #[.int .i64 a0_0, .int .i64 a0_1, .float .f32 a0_2, .int .i64 a0_3]), (.agg #[.int .i64 a1_0, .int .i64 a1_1, .int .i64 a1_2, .float .f32 a1_3])] _ rfl (by decide) (callsEnter 36 Try.f36 _ (by kernel_rfl) (by kernel_rfl) rfl) rfl (.tuple #[.int .i64 ri0, .bool rb1]) (fun v hv => (HIM.out v ()).mono fun e v2 ⟨h1, h2⟩ => ⟨h1, Lo.mkW_mkW hv h2⟩) ?_; simp only [Act.put, List.setIfInBounds_toArray, List.set_cons_succ, List.set_cons_zero])
    | (refine Lo.wpL_move rfl _ (.inl rfl) (by decide) ?_; simp only [Act.put, List.setIfInBounds_toArray, List.set_cons_succ, List.set_cons_zero])
    | (refine Lo.wpL_move rfl _ (.inr rfl) (by decide) ?_; simp only [Act.put, List.setIfInBounds_toArray, List.set_cons_succ, List.set_cons_zero])
    | (refine Lo.wpG_fop (fun _ m h => Lo.drewG m h) rfl _ _ _ _ rfl rfl (by decide) _ _ _ _ _ rfl rfl (by assumption) (by assumption) ?_; intro rr hrr; simp only [Act.put, List.setIfInBounds_toArray, List.set_cons_succ, List.set_cons_zero])
    | (refine Lo.wpL_quiet rfl (by decide) (fun K hK => ?_); go_big_quiet_op; first | (refine hK _ ?_; clear hK K) | (refine ⟨_, fun _ _ _ _ => rfl, hK _ ?_⟩; clear hK K)))
  refine Lo.wpL_nil ?_; intro hsG dG
  refine Lo.after_nil ?_; intro nq
  generalize hwG : Lo.mkW _ hsG dG = wG
  replace hwG := Lo.sinceG hwG
  clear hsG dG
  have hs := hwG; clear hwG
  obtain ⟨v2, hV⟩ : ∃ v, v = wG := ⟨_, rfl⟩; rw [← hV] at hs ⊢; clear hV wG
  have S' := Lib.hid (since_step S.out hs); clear S; have S := S'; clear S'
  have LV' := Lib.hid (LV.out.since hs); clear LV; have LV := LV'; clear LV'
  clear hs
  go_wp2_with fail
  go_ret
  exact ⟨rfl, S0.out.trans (since_mono S.out (show w.heap.size ≤ W.heap.size by omega))⟩
set_option maxHeartbeats 16000000 in
set_option maxRecDepth 100000 in
theorem lawLevelAt_gen (a0 : EnvN) (a1 : Int) (a2 : Int) (ro0 : O) (rb1 : Bool) (w : World)
     
    (hsp : ∀ (v : World) (_ : Unit), Calls Try.prog 32 #[a0.val, .int .i64 a1, .int .i64 a2] v (PVB ro0 rb1 v))
    (him : ∀ (v : World) (_ : Unit), Calls Try.prog 33 #[a0.val, .int .i64 a1, .int .i64 a2] v (PVB ro0 rb1 v)) :
    Calls Try.prog 8 #[a0.val, .int .i64 a1, .int .i64 a2] w fun e w' => e = .returned (.bool true) ∧ w.Since w.heap.size w' := by
  obtain ⟨a0_0, a0_1, a0_2, a0_3⟩ := a0
  have hto0 := toEnvelope_any ⟨a0_0, a0_1, a0_2, a0_3⟩
  simp only [EnvN.val] at hto0 hsp him ⊢
  have HTO0 := Lib.hid hto0; clear hto0
  obtain ⟨W, hW⟩ : ∃ W, W = (w.alloc (.cells #[.int .i64 a0_0, .int .i64 a0_1, .float .f32 a0_2, .int .i64 a0_3] 44)) := ⟨_, rfl⟩
  have S0 : Hid (w.Since w.heap.size W) := Lib.hid (by rw [hW]; exact (World.Since.refl _ _).alloc (Nat.le_refl _) _)
  have hz : w.heap.size < W.heap.size := by rw [hW]; simp
  have BX0_0 : Hid (W.cell? ⟨w.heap.size, 0, none⟩ = some (.int .i64 a0_0)) := Lib.hid (by rw [hW]; simp [go_sem])
  have BX0_1 : Hid (W.cell? ⟨w.heap.size, 1, none⟩ = some (.int .i64 a0_1)) := Lib.hid (by rw [hW]; simp [go_sem])
  have BX0_2 : Hid (W.cell? ⟨w.heap.size, 2, none⟩ = some (.float .f32 a0_2)) := Lib.hid (by rw [hW]; simp [go_sem])
  have BX0_3 : Hid (W.cell? ⟨w.heap.size, 3, none⟩ = some (.int .i64 a0_3)) := Lib.hid (by rw [hW]; simp [go_sem])
  have HSP := Lib.hid hsp; have HIM := Lib.hid him; clear hsp him
  go_enter Try.func8, Try.ntmps8
  go_wp2_with fail
  rw [← hW]
  have S : Hid (W.Since W.heap.size W) := Lib.hid (World.Since.refl _ _)
  have LV : Hid (Hx W.heap.size W []) := Lib.hid trivial
  go_at_call 30
  refine (HTO0.out _).mono ?_
  rintro e v1 ⟨rfl, hs⟩
  have S' := Lib.hid (since_step S.out hs); clear S; have S := S'; clear S'
  have LV' := Lib.hid (LV.out.since hs); clear LV; have LV := LV'; clear LV'
  clear hs
  go_wp2_with fail
  go_at_call 32
  refine (HSP.out _ () ).mono ?_
  rintro e v2 ⟨w0, rfl, how0, hs⟩
  have LV' := Lib.hid ((LV.out).since hs); clear LV; have LV := LV'; clear LV'
  have S' := Lib.hid (since_step S.out hs); clear S; have S := S'; clear S'
  clear hs
  have Vw0 := Lib.hid how0; have Lw0 := Lib.hid how0.out.1; clear how0
  have bx0_0 := (S.out.cell (a := ⟨w.heap.size, 0, none⟩) (by omega)).trans BX0_0.out
  have bx0_1 := (S.out.cell (a := ⟨w.heap.size, 1, none⟩) (by omega)).trans BX0_1.out
  have bx0_2 := (S.out.cell (a := ⟨w.heap.size, 2, none⟩) (by omega)).trans BX0_2.out
  have bx0_3 := (S.out.cell (a := ⟨w.heap.size, 3, none⟩) (by omega)).trans BX0_3.out
  go_wp2_with fail
  go_at_call 30
  refine (HTO0.out _).mono ?_
  rintro e v3 ⟨rfl, hs⟩
  clear bx0_0 bx0_1 bx0_2 bx0_3
  have S' := Lib.hid (since_step S.out hs); clear S; have S := S'; clear S'
  have LV' := Lib.hid (LV.out.since hs); clear LV; have LV := LV'; clear LV'
  clear hs
  go_wp2_with fail
  go_at_call 33
  refine (HIM.out _ () ).mono ?_
  rintro e v4 ⟨g0, rfl, hog0, hs⟩
  have LV' := Lib.hid ((LV.out).since hs); clear LV; have LV := LV'; clear LV'
  have S' := Lib.hid (since_step S.out hs); clear S; have S := S'; clear S'
  clear hs
  have Vg0 := Lib.hid hog0; have Lg0 := Lib.hid hog0.out.1; clear hog0
  have L1 := Lg0.out; have L2 := Lw0.out
  go_wp2_with (first | (with_reducible_and_instances refine wpList_wide _ rfl _ _ _ rfl _ rfl (by kernel_rfl) (by kernel_rfl) L1 ?_; intro r3 m3 hr; have X1 := Lib.hid hr; clear hr) | (with_reducible_and_instances refine wpList_wide _ rfl _ _ _ rfl _ rfl (by kernel_rfl) (by kernel_rfl) L2 ?_; intro r4 m4 hr; have X2 := Lib.hid hr; clear hr))
  clear L1 L2
  go_at_call 20
  refine (sameFloat_any _ _ _ _ X1.out (by have := X2.out; rw [Vw0.out.out.2, ← Vg0.out.out.2] at this; exact this)).mono ?_
  rintro e w' ⟨rfl, m5, rfl⟩
  clear X1 X2
  have hs : World.Since v4.heap.size v4 (v4.drewN (m3 + m4 + m5)) := since_drewN (World.Since.refl _ _) _
  simp only [World.drewN_drewN]
  generalize hV : World.drewN v4 (m3 + m4 + m5) = v5 at hs ⊢
  clear hV
  have S' := Lib.hid (since_step S.out hs); clear S; have S := S'; clear S'
  have LV' := Lib.hid (LV.out.since hs); clear LV; have LV := LV'; clear LV'
  clear hs
  go_wp2_with fail
  go_ret
  exact ⟨rfl, S0.out.trans (since_mono S.out (show w.heap.size ≤ W.heap.size by omega))⟩
end Go.Proofs.Ytlodnikboekdpaa
