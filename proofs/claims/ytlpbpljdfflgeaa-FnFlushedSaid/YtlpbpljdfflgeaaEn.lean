/- Dynamics: a follower's step, both sides. -/
import Derived.Test.YtlpbpljdfflgeaaEh
import Derived.Test.YtlpbpljdfflgeaaDi
set_option linter.unusedVariables false
set_option linter.unusedSimpArgs false
namespace Go.Proofs.Ytlpbpljdfflgeaa
open Fl Go.RowKit
/-- a follower's three words lie in block g from place o on -/
structure FolAt (w : World) (g : Nat) (a r l : Nat) : Prop where
  lt : g < w.heap.size
  a : w.cell? ⟨g, 0, none⟩ = some (.float .f32 a)
  r : w.cell? ⟨g, 1, none⟩ = some (.float .f32 r)
  l : w.cell? ⟨g, 2, none⟩ = some (.float .f32 l)
theorem FolAt.of {w w' : World} {g a r l : Nat} (h : FolAt w g a r l) (hs : w.heap.size ≤ w'.heap.size) (e : w'.heap[g]? = w.heap[g]?) : FolAt w' g a r l :=
  ⟨Nat.lt_of_lt_of_le h.lt hs, (cell_of_block e _).trans h.a, (cell_of_block e _).trans h.r, (cell_of_block e _).trans h.l⟩
theorem flushH {x : Nat} {F : O} (h : Hid (Fv .f32 x F)) : Hid (Fv .f32 (flushN x) (F.map flushN)) := Lib.hid (flushN_fv h.out)
/-- a level behind a sample -/
def folO (A R L X : O) : O := (ad L (mu (if gtO (sizeO X) L then A else R) (su (sizeO X) L))).map flushN
theorem implFlush_hc (u : O) (w : World) (q m : Nat) (hq : Fv .f32 q u) : Calls Try.prog 29 (Value.float .f32 q :: []).toArray (w.drewN m) fun e w2 => ∃ r n : Nat, e = .returned (.float .f32 r) ∧ Fv .f32 r (u.map flushN) ∧ w2 = w.drewN n :=
  (implFlush_any q (w.drewN m) hq.1).mono fun _ _ ⟨h1, h2⟩ => ⟨_, m, h1, flushN_fv hq, h2.symm⟩
set_option maxHeartbeats 4000000 in
set_option maxRecDepth 100000 in
theorem implFollow_any (g a r l x : Nat) (A R L X : O) (w : World) (h : FolAt w g a r l) (hf : w.frozen? ⟨g, 2, none⟩ = false) (ha : Hid (Fv .f32 a A)) (hr : Hid (Fv .f32 r R)) (hl : Hid (Fv .f32 l L)) (hx : Hid (Fv .f32 x X)) :
    Calls Try.prog 140 #[.pointer (some ⟨g, 0, none⟩), .float .f32 x] w fun e w' => ∃ q, e = .returned (.float .f32 q) ∧ Hid (Fv .f32 q (folO A R L X)) ∧ ∃ m, w' = (w.setCell ⟨g, 2, none⟩ (.float .f32 q)).drewN m := by
  obtain ⟨hlt, c1, c2, c3⟩ := h
  have hs := sizeN_fv hx
  have hg := gt_fv hs hl
  have hxl := hx.out.1
  unfold folO
  cases e : gtO (sizeO X) L
  all_goals
    rw [e] at hg
    go_enter Try.func140, Try.ntmps140
    go_wp2_with fail
    refine Lo.wp_loose_all [] (by kernel_rfl) (by kernel_rfl) ?_
    repeat (first
      | (refine Lo.wpL_move rfl _ (.inl rfl) (by decide) ?_; simp only [Act.put, List.setIfInBounds_toArray, List.set_cons_succ, List.set_cons_zero])
      | (refine Lo.wpL_move rfl _ (.inr rfl) (by decide) ?_; simp only [Act.put, List.setIfInBounds_toArray, List.set_cons_succ, List.set_cons_zero])
      | (refine Lo.wpL_fop rfl _ _ _ _ rfl rfl (by decide) _ _ _ _ _ rfl rfl (by assumption) (by assumption) ?_; intro rr hrr; simp only [Act.put, List.setIfInBounds_toArray, List.set_cons_succ, List.set_cons_zero])
      | (refine Lo.wpL_wide rfl _ _ _ rfl (by decide) _ _ rfl (by kernel_rfl) (by kernel_rfl) (by assumption) ?_; intro rr hrr; simp only [Act.put, List.setIfInBounds_toArray, List.set_cons_succ, List.set_cons_zero])
      | (refine Lo.wpL_quiet rfl (by decide) (fun K hK => ?_); go_big_quiet_op; first | (refine hK _ ?_; clear hK K) | (apply Exists.intro; refine ⟨fun _ => ?_, hK _ ?_⟩; (first | (go_at_call 110; exact (implSize2 x _ hxl).mono fun _ _ ⟨h1, h2⟩ => ⟨h1, _, h2⟩)); clear hK K)))
    refine Lo.wpL_nil ?_
    refine Lo.after_nil ?_; intro nq
    go_wp2
    refine Lo.wp_loose_tail [34,35,36,37] 17 (by kernel_rfl) (by kernel_rfl) ?_
    simp only [List.take_succ_cons, List.take_zero, List.drop_succ_cons, List.drop_zero]
    repeat (first
      | (refine Lo.wpL_call1 rfl 29 _ [] [] _ rfl (by decide) (callsEnter 29 Try.f29 _ (by kernel_rfl) (by kernel_rfl) rfl) .f32 _ _ .f32 _ rfl (fun _ _ => rfl) (by assumption) (implFlush_hc _ _) ⟨_, (flushH (by assumption)).out⟩ ?_; intro rr hrr; simp only [Act.put, List.setIfInBounds_toArray, List.set_cons_succ, List.set_cons_zero])
      | (refine Lo.wpL_move rfl _ (.inl rfl) (by decide) ?_; simp only [Act.put, List.setIfInBounds_toArray, List.set_cons_succ, List.set_cons_zero])
      | (refine Lo.wpL_move rfl _ (.inr rfl) (by decide) ?_; simp only [Act.put, List.setIfInBounds_toArray, List.set_cons_succ, List.set_cons_zero])
      | (refine Lo.wpL_fop rfl _ _ _ _ rfl rfl (by decide) _ _ _ _ _ rfl rfl (by assumption) (by assumption) ?_; intro rr hrr; simp only [Act.put, List.setIfInBounds_toArray, List.set_cons_succ, List.set_cons_zero])
      | (refine Lo.wpL_wide rfl _ _ _ rfl (by decide) _ _ rfl (by kernel_rfl) (by kernel_rfl) (by assumption) ?_; intro rr hrr; simp only [Act.put, List.setIfInBounds_toArray, List.set_cons_succ, List.set_cons_zero])
      | (refine Lo.wpL_quiet rfl (by decide) (fun K hK => ?_); go_big_quiet_op; (refine hK _ ?_; clear hK K)))
    refine Lo.wpL_nil ?_
    refine Lo.after_fl rfl (by assumption) ?_; intro q34 h34; simp only [Act.put, List.setIfInBounds_toArray, List.set_cons_succ, List.set_cons_zero]
    refine Lo.after_fl rfl (by assumption) ?_; intro q35 h35; simp only [Act.put, List.setIfInBounds_toArray, List.set_cons_succ, List.set_cons_zero]
    refine Lo.after_fl rfl (by assumption) ?_; intro q36 h36; simp only [Act.put, List.setIfInBounds_toArray, List.set_cons_succ, List.set_cons_zero]
    refine Lo.after_fl rfl (by assumption) ?_; intro q37 h37; simp only [Act.put, List.setIfInBounds_toArray, List.set_cons_succ, List.set_cons_zero]
    refine Lo.after_nil ?_; intro nq
    go_wp2
    go_ret
    exact ⟨_, rfl, h37, _, rfl⟩
end Go.Proofs.Ytlpbpljdfflgeaa
