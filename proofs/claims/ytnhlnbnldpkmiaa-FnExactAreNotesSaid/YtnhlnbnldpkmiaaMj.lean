/- AreNotes of the program. -/
import Derived.Test.YtnhlnbnldpkmiaaMi
set_option linter.unusedVariables false
set_option linter.unusedSimpArgs false
namespace Go.Proofs.Ytnhlnbnldpkmiaa
open Fl Go.RowKit
namespace Lo
section
variable {P : Program} {ops : Array Oper} {rest : List Oper} {o : Oper} {a : Act} {Q : Act → Prop} {ds : List Nat}
/-- a call of known arguments, through a function's value, that gives one value -/
theorem wpG_callQD {C : World → Prop} (hg : o.guard = none) (f : FuncId) (c : Operand) (xs : List Operand) (vs : List Value) (tys : Array TypeId) (hop : o.op = Op.call ⟨.value c, xs.toArray, tys⟩) (ho : avoid ds o = true)
    (hcv : a.eval c = .func (.func f) #[] #[])
    (henter : ∀ args w2, (callFunc f args).run P w2 = .ok (.enter f args) w2) (hxs : xs.map a.eval = vs) (val : Value)
    (hc : ∀ v, C v → Calls P f vs.toArray v fun e v2 => e = .returned val ∧ C v2)
    (hK : wpL P ops C (fun i => ds.contains i) Q rest (a.put o.dst val)) : wpL P ops C (fun i => ds.contains i) Q (o :: rest) a := by
  refine wpL_of_loose hg (fun b hab w2 hw => ?_) hK
  rw [eval_avoid hab ho]
  have e : (execOp a.eval o).run P w2 = .ok (.enter f vs.toArray) w2 := by
    subst hxs
    simp [execOp, hop, resolve, hcv, invoke, Deferred.ofValue, henter, Result.andThen]
  rw [e]
  exact ⟨hw, (hc w2 hw).mono fun e2 w3 ⟨he, hw3⟩ => ⟨_, he, okv.refl .., hw3⟩⟩
end
end Lo
set_option maxHeartbeats 2000000 in
set_option maxRecDepth 100000 in
theorem allNotes_any (A : Option Addr) (n c : Nat) (x : Nat → NoteR) (r : Bool) (w : World) (B : Nat) (h : Rs NoteR.cells 4 w B A n x) (hB : B ≤ w.heap.size) (hn : n ≤ 1048576) (hr : r = true ↔ ∀ j, j < n → noteB (x j) = true) :
    Calls Try.prog 87 #[.slice A n c, .func (.func 88) #[] #[]] w fun e w' => e = .returned (.bool r) ∧ w.Since w.heap.size w' := by
  have HA := Lib.hid h; have HR := Lib.hid hr
  clear h hr
  go_enter Try.func87, Try.ntmps87
  go_wp2
  go_loopw [9] (fun i wr => ∃ k : Nat, k ≤ n ∧ i = .int .i64 k ∧ (∀ j, j < k → noteB (x j) = true) ∧ w.Since w.heap.size wr) (fun i _ => n - (intOf i).toNat)
  case atStart => exact ⟨0, Nat.zero_le _, rfl, (fun j hj => by omega), World.Since.refl _ _⟩
  case round =>
    obtain ⟨k, hk, rfl, hz, hs⟩ := hrel
    have HZ := Lib.hid hz; have HS := Lib.hid hs
    clear hz hs
    by_cases hlt : k < n
    · obtain ⟨g, off, rfl, hg, hc⟩ := HA.out.at_ hlt
      have hc0 := (HS.out.cell (a := ⟨g, off + k * 4 + 0, none⟩) (by show g < _; omega)).trans (hc 0 (by decide))
      have hc1 := (HS.out.cell (a := ⟨g, off + k * 4 + 1, none⟩) (by show g < _; omega)).trans (hc 1 (by decide))
      have hc2 := (HS.out.cell (a := ⟨g, off + k * 4 + 2, none⟩) (by show g < _; omega)).trans (hc 2 (by decide))
      have hc3 := (HS.out.cell (a := ⟨g, off + k * 4 + 3, none⟩) (by show g < _; omega)).trans (hc 3 (by decide))
      simp only [NoteR.cells, List.getD_cons_zero, List.getD_cons_succ, Nat.add_zero] at hc0 hc1 hc2 hc3
      clear hc
      cases ho : noteB (x k)
      · have h6 : r = false := by
          cases h6 : r
          · rfl
          · have h7 := HR.out.1 h6 k hlt
            rw [ho] at h7; cases h7
        subst h6
        go_wp2_with fail
        refine (implNote_b ⟨(x k).st, (x k).h, (x k).p, (x k).g⟩ false _ ho).mono ?_; rintro e w2 ⟨rfl, hs2⟩
        have HS2 := Lib.hid (since_step (HS.out.alloc HS.out.size _) hs2); clear hs2
        go_wp2
        go_ret
        exact ⟨rfl, HS2.out⟩
      · have HO := Lib.hid ho
        go_wp2_with fail
        refine (implNote_b ⟨(x k).st, (x k).h, (x k).p, (x k).g⟩ true _ ho).mono ?_; rintro e w2 ⟨rfl, hs2⟩
        have HS2 := Lib.hid (since_step (HS.out.alloc HS.out.size _) hs2); clear hs2
        go_wp2
        go_roundw
        case rel =>
          refine ⟨k + 1, by omega, by go_num, fun j hj => ?_, HS2.out⟩
          by_cases e : j = k
          · subst e; exact HO.out
          · exact HZ.out j (by omega)
        case measure => simp [intOf]; omega
    · obtain rfl : k = n := by omega
      have h5 := HR.out.2 HZ.out
      subst h5
      clear HR
      go_wp2
      go_ret
      exact ⟨rfl, HS.out⟩
/-- from place k on, each note starts no earlier than that before it -/
def sortedFrom (x : Nat → NoteR) (i : Int) (n : Nat) : Prop := ∀ j : Nat, i < (j : Int) → j < n → 0 < j → (x (j - 1)).st ≤ (x j).st
set_option maxHeartbeats 8000000 in
set_option maxRecDepth 100000 in
theorem sortNotes_any (A : Option Addr) (n c : Nat) (x : Nat → NoteR) (r : Bool) (w : World) (B : Nat) (h : Rs NoteR.cells 4 w B A n x) (hB : B ≤ w.heap.size) (hn : n ≤ 1048576) (hr : r = true ↔ sortedFrom x 0 n) :
    Calls Try.prog 89 #[.slice A n c, .func (.func 85) #[] #[]] w fun e w' => e = .returned (.bool r) ∧ w.Since w.heap.size w' := by
  have HA := Lib.hid h; have HR := Lib.hid hr
  clear h hr
  go_enter Try.func89, Try.ntmps89
  go_wp2
  go_loopw [5] (fun i wr => ∃ k : Int, -1 ≤ k ∧ k < n ∧ i = .int .i64 k ∧ sortedFrom x k n ∧ w.Since w.heap.size wr) (fun i _ => (intOf i).toNat)
  case atStart => exact ⟨(n : Int) - 1, by omega, by omega, by go_num, (fun j hj => by omega), World.Since.refl _ _⟩
  case round =>
    obtain ⟨k, hk1, hk2, rfl, hz, hs⟩ := hrel
    have HZ := Lib.hid hz; have HS := Lib.hid hs
    clear hz hs
    by_cases hlt : 0 < k
    · obtain ⟨m, rfl⟩ : ∃ m : Nat, k = ((m + 1 : Nat) : Int) := ⟨(k - 1).toNat, by omega⟩
      obtain ⟨g, off, hA, hg, hc⟩ := HA.out.range (show m + 1 < n by omega) (by rfl)
      obtain ⟨g2, off2, hA2, _, hd⟩ := HA.out.range (show m < n by omega) (by rfl)
      rw [hA] at hA2
      injection hA2 with hA2; injection hA2 with hA2 hA3 _; subst hA2 hA3
      subst hA
      have R1 := Lib.hid (Lo.range_since hc HS.out (by omega))
      have R2 := Lib.hid (Lo.range_since hd HS.out (by omega))
      have hz := HS.out.size
      simp only [NoteR.cells] at R1 R2
      clear hc hd
      have hm : ((m + 1 : Nat) : Int) - 1 = (m : Int) := by omega
      cases ho : decide ((x m).st ≤ (x (m + 1)).st)
      · have h6 : r = false := by
          cases h6 : r
          · rfl
          · have h7 := HR.out.1 h6 (m + 1) (by omega) (by omega) (by omega)
            rw [Nat.add_sub_cancel] at h7
            exact absurd h7 (of_decide_eq_false ho)
        subst h6
        clear HR
        have HX := Lib.hid (show (x (m + 1)).st < (x m).st by have := of_decide_eq_false ho; omega)
        have HEQ := Lib.hid (fun W => byStart_any (x (m + 1)) (x m) W)
        rw [if_pos HX.out] at HEQ
        simp only [NoteR.val] at HEQ
        go_wp2_with fail
        refine Lo.wp_looseG_all [] (by kernel_rfl) (by kernel_rfl) ?_
        repeat (first
          | (refine Lo.wpL_loadRow rfl 59 _ rfl (by decide) g (off + (m + 1) * 4) rfl [.int .i64 (x (m + 1)).st, .int .i64 (x (m + 1)).h, .int .i64 (x (m + 1)).p, .float .f32 (x (m + 1)).g] _ Try.underlying59 rfl (by kernel_rfl) (fun v ⟨hs, dd, hv⟩ => hv ▸ Lo.range_since R1.out (Lo.mkW_since _ hs dd) (by omega)) ?_; simp only [Act.put, List.setIfInBounds_toArray, List.set_cons_succ, List.set_cons_zero])
          | (refine Lo.wpL_loadRow rfl 59 _ rfl (by decide) g (off + m * 4) rfl [.int .i64 (x m).st, .int .i64 (x m).h, .int .i64 (x m).p, .float .f32 (x m).g] _ Try.underlying59 rfl (by kernel_rfl) (fun v ⟨hs, dd, hv⟩ => hv ▸ Lo.range_since R2.out (Lo.mkW_since _ hs dd) (by omega)) ?_; simp only [Act.put, List.setIfInBounds_toArray, List.set_cons_succ, List.set_cons_zero])
          | (refine Lo.wpG_callQD rfl 85 (.tmp _) [.tmp _, .tmp _] [.agg #[.int .i64 (x (m + 1)).st, .int .i64 (x (m + 1)).h, .int .i64 (x (m + 1)).p, .float .f32 (x (m + 1)).g], .agg #[.int .i64 (x m).st, .int .i64 (x m).h, .int .i64 (x m).p, .float .f32 (x m).g]] _ rfl (by decide) rfl (callsEnter 85 Try.f85 _ (by kernel_rfl) (by kernel_rfl) rfl) rfl (.int .i64 (-1)) (fun v hv => (HEQ.out v).mono fun e v2 ⟨h1, h2⟩ => ⟨h1, Lo.mkW_mkW hv h2⟩) ?_; simp only [Act.put, List.setIfInBounds_toArray, List.set_cons_succ, List.set_cons_zero])
          | (refine Lo.wpL_move rfl _ (.inl rfl) (by decide) ?_; simp only [Act.put, List.setIfInBounds_toArray, List.set_cons_succ, List.set_cons_zero])
          | (refine Lo.wpL_move rfl _ (.inr rfl) (by decide) ?_; simp only [Act.put, List.setIfInBounds_toArray, List.set_cons_succ, List.set_cons_zero])
          | (refine Lo.wpG_fop (fun _ m h => Lo.drewG m h) rfl _ _ _ _ rfl rfl (by decide) _ _ _ _ _ rfl rfl (by assumption) (by assumption) ?_; intro rr hrr; simp only [Act.put, List.setIfInBounds_toArray, List.set_cons_succ, List.set_cons_zero])
          | (refine Lo.wpL_quiet rfl (by decide) (fun K hK => ?_); go_big_quiet_op; first | (refine hK _ ?_; clear hK K) | (refine ⟨_, fun _ _ _ _ => rfl, hK _ ?_⟩; clear hK K)))
        refine Lo.wpL_nil ?_; intro hsG dG
        refine Lo.after_nil ?_; intro nq
        generalize hwG : Lo.mkW _ hsG dG = wG
        replace hwG := Lo.sinceG hwG
        clear hsG dG
        have HS2 := Lib.hid (since_step HS.out hwG)
        go_wp2
        go_ret
        exact ⟨rfl, HS2.out⟩
      · have HX := Lib.hid (show ¬ (x (m + 1)).st < (x m).st by have := of_decide_eq_true ho; omega)
        have HEQ := Lib.hid (fun W => byStart_any (x (m + 1)) (x m) W)
        rw [if_neg HX.out] at HEQ
        obtain ⟨z, hzz⟩ : ∃ z : Int, z = (if (x m).st < (x (m + 1)).st then 1 else 0) := ⟨_, rfl⟩
        rw [← hzz] at HEQ
        have hz2 : decide (z < 0) = false := decide_eq_false (by rw [hzz]; split <;> omega)
        clear hzz
        simp only [NoteR.val] at HEQ
        go_wp2_with fail
        refine Lo.wp_looseG_all [] (by kernel_rfl) (by kernel_rfl) ?_
        repeat (first
          | (refine Lo.wpL_loadRow rfl 59 _ rfl (by decide) g (off + (m + 1) * 4) rfl [.int .i64 (x (m + 1)).st, .int .i64 (x (m + 1)).h, .int .i64 (x (m + 1)).p, .float .f32 (x (m + 1)).g] _ Try.underlying59 rfl (by kernel_rfl) (fun v ⟨hs, dd, hv⟩ => hv ▸ Lo.range_since R1.out (Lo.mkW_since _ hs dd) (by omega)) ?_; simp only [Act.put, List.setIfInBounds_toArray, List.set_cons_succ, List.set_cons_zero])
          | (refine Lo.wpL_loadRow rfl 59 _ rfl (by decide) g (off + m * 4) rfl [.int .i64 (x m).st, .int .i64 (x m).h, .int .i64 (x m).p, .float .f32 (x m).g] _ Try.underlying59 rfl (by kernel_rfl) (fun v ⟨hs, dd, hv⟩ => hv ▸ Lo.range_since R2.out (Lo.mkW_since _ hs dd) (by omega)) ?_; simp only [Act.put, List.setIfInBounds_toArray, List.set_cons_succ, List.set_cons_zero])
          | (refine Lo.wpG_callQD rfl 85 (.tmp _) [.tmp _, .tmp _] [.agg #[.int .i64 (x (m + 1)).st, .int .i64 (x (m + 1)).h, .int .i64 (x (m + 1)).p, .float .f32 (x (m + 1)).g], .agg #[.int .i64 (x m).st, .int .i64 (x m).h, .int .i64 (x m).p, .float .f32 (x m).g]] _ rfl (by decide) rfl (callsEnter 85 Try.f85 _ (by kernel_rfl) (by kernel_rfl) rfl) rfl (.int .i64 z) (fun v hv => (HEQ.out v).mono fun e v2 ⟨h1, h2⟩ => ⟨h1, Lo.mkW_mkW hv h2⟩) ?_; simp only [Act.put, List.setIfInBounds_toArray, List.set_cons_succ, List.set_cons_zero])
          | (refine Lo.wpL_move rfl _ (.inl rfl) (by decide) ?_; simp only [Act.put, List.setIfInBounds_toArray, List.set_cons_succ, List.set_cons_zero])
          | (refine Lo.wpL_move rfl _ (.inr rfl) (by decide) ?_; simp only [Act.put, List.setIfInBounds_toArray, List.set_cons_succ, List.set_cons_zero])
          | (refine Lo.wpG_fop (fun _ m h => Lo.drewG m h) rfl _ _ _ _ rfl rfl (by decide) _ _ _ _ _ rfl rfl (by assumption) (by assumption) ?_; intro rr hrr; simp only [Act.put, List.setIfInBounds_toArray, List.set_cons_succ, List.set_cons_zero])
          | (refine Lo.wpL_quiet rfl (by decide) (fun K hK => ?_); go_big_quiet_op; first | (refine hK _ ?_; clear hK K) | (refine ⟨_, fun _ _ _ _ => rfl, hK _ ?_⟩; clear hK K)))
        refine Lo.wpL_nil ?_; intro hsG dG
        refine Lo.after_nil ?_; intro nq
        generalize hwG : Lo.mkW _ hsG dG = wG
        replace hwG := Lo.sinceG hwG
        clear hsG dG
        have HS2 := Lib.hid (since_step HS.out hwG)
        go_wp2
        go_roundw
        case rel =>
          refine ⟨(m : Int), by omega, by omega, by go_num, fun j h1 h2 h3 => ?_, HS2.out⟩
          by_cases e : j = m + 1
          · subst e; rw [Nat.add_sub_cancel]; have := HX.out; omega
          · exact HZ.out j (by omega) h2 h3
        case measure => first | (simp [intOf]; done) | (simp [intOf]; omega)
    · have h5 := HR.out.2 (fun j h1 h2 h3 => HZ.out j (by omega) h2 h3)
      subst h5
      clear HR
      have hlt' : decide ((0 : Int) < k) = false := decide_eq_false hlt
      go_wp2
      go_ret
      exact ⟨rfl, HS.out⟩
open Classical in
theorem implAreNotes_b (A : Option Addr) (n c : Nat) (x : Nat → NoteR) (r : Bool) (w : World) (h : Rs NoteR.cells 4 w w.heap.size A n x) (hn : n ≤ 1048576) (hr : r = true ↔ notesOk x n ∧ n ≤ 12) :
    Calls Try.prog 35 #[.slice A n c] w (PB r w) := by
  unfold PB
  have HA := Lib.hid h
  clear h
  cases h3 : decide ((n : Int) ≤ 12)
  · have h5 : r = false := by
      cases h6 : r
      · rfl
      · exact absurd (hr.1 h6).2 (by have := of_decide_eq_false h3; omega)
    subst h5
    clear hr
    go_enter Try.func35, Try.ntmps35
    go_wp2
    go_ret
    exact ⟨rfl, by (repeat (first | (with_reducible refine Fl.sinDrew ?_) | (with_reducible refine World.Since.drew ?_) | (with_reducible refine Fl.sinSet ?_ ?_; rotate_left) | (with_reducible refine Fl.sinAlloc ?_ ?_; rotate_left) | with_reducible exact World.Since.refl _ _ | with_reducible assumption | (with_reducible refine Fl.sinStep (by with_reducible assumption) ?_))); all_goals (first | omega | (simp; done) | (simp; omega) | (simp [go_sem]; done) | (simp [go_sem]; omega))⟩
  · have h12 : n ≤ 12 := by have := of_decide_eq_true h3; omega
    obtain ⟨a, ha⟩ : ∃ a : Bool, a = decide (∀ j, j < n → noteB (x j) = true) := ⟨_, rfl⟩
    obtain ⟨b, hb⟩ : ∃ b : Bool, b = decide (sortedFrom x 0 n) := ⟨_, rfl⟩
    have HA1 := Lib.hid (show a = true ↔ ∀ j, j < n → noteB (x j) = true by rw [ha]; exact decide_eq_true_iff)
    have HB1 := Lib.hid (show b = true ↔ sortedFrom x 0 n by rw [hb]; exact decide_eq_true_iff)
    clear ha hb
    have hab : r = (a && b) := by
      rw [Bool.eq_iff_iff, hr, Bool.and_eq_true, HA1.out, HB1.out]
      constructor
      · rintro ⟨h, _⟩
        exact ⟨fun j hj => (h j hj).1, fun j _ h2 h3 => (h j h2).2 h3⟩
      · rintro ⟨h1, h2⟩
        exact ⟨fun j hj => ⟨h1 j hj, fun h0 => h2 j (by omega) hj h0⟩, h12⟩
    subst hab
    clear hr
    cases ea : a
    · subst ea
      go_enter Try.func35, Try.ntmps35
      go_wp2_with (go_at_call 87; refine (allNotes_any A n c x false _ _ HA.out (Nat.le_refl _) hn HA1.out).mono ?_; rintro e w2 ⟨rfl, hs⟩)
      go_ret
      exact ⟨rfl, hs⟩
    · subst ea
      go_enter Try.func35, Try.ntmps35
      go_wp2_with (first | (go_at_call 87; refine (allNotes_any A n c x true _ _ HA.out (Nat.le_refl _) hn HA1.out).mono ?_; rintro e w2 ⟨rfl, hs⟩; have HW := Lib.hid hs; clear hs) | (go_at_call 89; refine (sortNotes_any A n c x b _ _ (HA.out.since HW.out) HW.out.size hn HB1.out).mono ?_; rintro e w3 ⟨rfl, hs2⟩))
      go_ret
      exact ⟨by simp, since_step HW.out hs2⟩
end Go.Proofs.Ytnhlnbnldpkmiaa
