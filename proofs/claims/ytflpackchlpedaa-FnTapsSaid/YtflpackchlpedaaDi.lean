/- Delays: the program's rings. -/
import Derived.Test.YtflpackchlpedaaDl
import Derived.StillTailTactics
import Derived.Deep.QuietTactic
import Derived.BigQuiet
import Derived.IntWalk
import Derived.Laws.CopyOwn
set_option linter.unusedVariables false
set_option linter.unusedSimpArgs false
namespace Go.Proofs.Ytflpackchlpedaa
open Fl Go.RowKit
/-- a ring in block g: its length, its oldest place, its words -/
structure RingAt (w : World) (g n o : Nat) (f : Nat → Nat) : Prop where
  blk : ∃ cs : List Value, w.heap[g]? = some (.cells cs.toArray 91 (0, 0)) ∧ cs.length = 66 ∧ (∀ j, j < 64 → cs[j]? = some (.float .f32 (f j))) ∧ cs[64]? = some (.int .i64 n) ∧ cs[65]? = some (.int .i64 o)
  small : ∀ j, j < 64 → f j < 4294967296
theorem RingAt.lt {w : World} {g n o : Nat} {f : Nat → Nat} (h : RingAt w g n o f) : g < w.heap.size := by
  obtain ⟨cs, hb, _⟩ := h.blk
  exact (Array.getElem?_eq_some_iff.1 hb).1
theorem RingAt.num {w : World} {g n o : Nat} {f : Nat → Nat} (h : RingAt w g n o f) {j : Nat} (hj : j < 64) : w.cell? ⟨g, j, none⟩ = some (.float .f32 (f j)) := by
  obtain ⟨cs, hb, _, hc, _⟩ := h.blk
  simp only [World.cell?, hb]
  simpa using hc j hj
theorem RingAt.len {w : World} {g n o : Nat} {f : Nat → Nat} (h : RingAt w g n o f) : w.cell? ⟨g, 64, none⟩ = some (.int .i64 n) := by
  obtain ⟨cs, hb, _, _, hc, _⟩ := h.blk
  simp only [World.cell?, hb]
  simpa using hc
theorem RingAt.old {w : World} {g n o : Nat} {f : Nat → Nat} (h : RingAt w g n o f) : w.cell? ⟨g, 65, none⟩ = some (.int .i64 o) := by
  obtain ⟨cs, hb, _, _, _, hc⟩ := h.blk
  simp only [World.cell?, hb]
  simpa using hc
theorem RingAt.free {w : World} {g n o : Nat} {f : Nat → Nat} (h : RingAt w g n o f) (j : Nat) : w.frozen? ⟨g, j, none⟩ = false := by
  obtain ⟨cs, hb, _⟩ := h.blk
  simp [World.frozen?, hb]
theorem RingAt.of {w w' : World} {g n o : Nat} {f : Nat → Nat} (h : RingAt w g n o f) (e : w'.heap[g]? = w.heap[g]?) : RingAt w' g n o f := by
  obtain ⟨⟨cs, hb, r⟩, s⟩ := h
  exact ⟨⟨cs, e.trans hb, r⟩, s⟩
theorem RingAt.on {w w' : World} {g n o b : Nat} {f : Nat → Nat} (h : RingAt w g n o f) (k : On b w w') (hn : g ≠ b) : RingAt w' g n o f := h.of (k.2 g h.lt hn)
theorem RingAt.since {w w' : World} {g n o lo : Nat} {f : Nat → Nat} (h : RingAt w g n o f) (k : w.Since lo w') (hn : g < lo) : RingAt w' g n o f := h.of (k.block g hn)
theorem RingAt.drewN {w : World} {g n o : Nat} {f : Nat → Nat} (h : RingAt w g n o f) (k : Nat) : RingAt (w.drewN k) g n o f := ⟨h.blk, h.small⟩
theorem blk_set {w : World} {g k : Nat} {cs : List Value} {T : TypeId} {v : Value} (h : w.heap[g]? = some (.cells cs.toArray T (0, 0))) : (w.setCell ⟨g, k, none⟩ v).heap[g]? = some (.cells (cs.set k v).toArray T (0, 0)) := by
  simp [World.setCell, Array.getElem?_modify, h]
theorem RingAt.put {w : World} {g n o : Nat} {f : Nat → Nat} (h : RingAt w g n o f) {j x : Nat} (hj : j < 64) (hx : x < 4294967296) : RingAt (w.setCell ⟨g, j, none⟩ (.float .f32 x)) g n o (fun i => if i = j then x else f i) := by
  obtain ⟨⟨cs, hb, hl, hf, h64, h65⟩, hs⟩ := h
  refine ⟨⟨cs.set j (.float .f32 x), blk_set hb, by simp [hl], fun i hi => ?_, ?_, ?_⟩, fun i hi => ?_⟩
  · rw [List.getElem?_set]
    by_cases e : j = i
    · subst e; rw [if_pos rfl, if_pos (by omega), if_pos rfl]
    · rw [if_neg e, if_neg (fun h => e h.symm)]; exact hf i hi
  · rw [List.getElem?_set, if_neg (by omega)]; exact h64
  · rw [List.getElem?_set, if_neg (by omega)]; exact h65
  · show (if i = j then x else f i) < _
    split
    · exact hx
    · exact hs i hi
theorem RingAt.turn {w : World} {g n o : Nat} {f : Nat → Nat} (h : RingAt w g n o f) (p : Nat) : RingAt (w.setCell ⟨g, 65, none⟩ (.int .i64 (p : Nat))) g n p f := by
  obtain ⟨⟨cs, hb, hl, hf, h64, h65⟩, hs⟩ := h
  refine ⟨⟨cs.set 65 (.int .i64 p), blk_set hb, by simp [hl], fun i hi => ?_, ?_, ?_⟩, hs⟩
  · rw [List.getElem?_set, if_neg (by omega)]; exact hf i hi
  · rw [List.getElem?_set, if_neg (by omega)]; exact h64
  · rw [List.getElem?_set, if_pos rfl, if_pos (by omega)]

set_option maxHeartbeats 2000000 in
set_option maxRecDepth 100000 in
theorem oldest_any (g n o : Nat) (f : Nat → Nat) (w : World) (h : RingAt w g n o f) (ho : o < 64) :
    Calls Try.prog 65 #[.pointer (some ⟨g, 0, none⟩)] w fun e w' => e = .returned (.float .f32 (f o)) ∧ ∃ m, w' = w.drewN m := by
  have h1 := h.num ho
  have h2 := h.old
  have b1 : (0 : Int) ≤ o := by omega
  have b2 : (o : Int) < 64 := by omega
  clear h
  go_enter Try.func65, Try.ntmps65
  go_wp2
  go_quiet (fail)
  go_wp2
  go_ret
  exact ⟨rfl, _, rfl⟩
theorem tmodN (o n : Nat) : ((o : Int) + 1) % (n : Int) = (((o + 1) % n : Nat) : Int) := by rw [Int.natCast_emod]; rfl
set_option maxHeartbeats 2000000 in
set_option maxRecDepth 100000 in
theorem take_any (g n o x : Nat) (f : Nat → Nat) (w : World) (h : RingAt w g n o f) (ho : o < n) (hn : n ≤ 64) (hx : x < 4294967296) :
    Calls Try.prog 32 #[.pointer (some ⟨g, 0, none⟩), .float .f32 x] w fun e w' => e = .returned (.tuple #[]) ∧ RingAt w' g n ((o + 1) % n) (fun i => if i = o then x else f i) ∧ On g w w' := by
  have H := Lib.hid h
  have h1 := h.num (j := o) (by omega)
  have h2 := h.old
  have h3 := h.len
  have h4 := h.free o
  have h5 := h.free 65
  have b1 : (0 : Int) ≤ o := by omega
  have b2 : (o : Int) < 64 := by omega
  clear h
  go_enter Try.func32, Try.ntmps32
  go_wp2
  go_still_tail 9, (by kernel_rfl)
  change wpList _ _ _ _ _ w.drew
  go_wp2
  have H1 : Hid (RingAt (w.setCell ⟨g, o, none⟩ (.float .f32 x)).drew g n o (fun i => if i = o then x else f i)) := Lib.hid ((H.out.put (by omega) hx).drewN 1)
  have O1 : Hid (On g w (w.setCell ⟨g, o, none⟩ (.float .f32 x)).drew) := Lib.hid (((On.refl g w).set o _).drewN 1)
  clear h1 h2 h3 h4 h5
  generalize (w.setCell ⟨g, o, none⟩ (.float .f32 x)).drew = w1 at *
  have h2 := H1.out.old
  have h3 := H1.out.len
  have h5 := H1.out.free 65
  have b3 : (0 : Int) < n := by omega
  have b4 : (n : Int) ≤ 64 := by omega
  refine Lo.wp_loose_tail [] 13 (by kernel_rfl) (by kernel_rfl) ?_
  simp only [List.take_succ_cons, List.take_zero, List.drop_succ_cons, List.drop_zero]
  repeat (first
    | (refine Lo.wpL_move rfl _ (.inl rfl) (by decide) ?_; simp only [Act.put, List.setIfInBounds_toArray, List.set_cons_succ, List.set_cons_zero])
    | (refine Lo.wpL_move rfl _ (.inr rfl) (by decide) ?_; simp only [Act.put, List.setIfInBounds_toArray, List.set_cons_succ, List.set_cons_zero])
    | (refine Lo.wpL_fop rfl _ _ _ _ rfl rfl (by decide) _ _ _ _ _ rfl rfl (by assumption) (by assumption) ?_; intro rr hrr; simp only [Act.put, List.setIfInBounds_toArray, List.set_cons_succ, List.set_cons_zero])
    | (refine Lo.wpL_wide rfl _ _ _ rfl (by decide) _ _ rfl (by kernel_rfl) (by kernel_rfl) (by assumption) ?_; intro rr hrr; simp only [Act.put, List.setIfInBounds_toArray, List.set_cons_succ, List.set_cons_zero])
    | (refine Lo.wpL_quiet rfl (by decide) (fun K hK => ?_); go_big_quiet_op; (refine hK _ ?_; clear hK K)))
  refine Lo.wpL_nil ?_
  refine Lo.after_nil ?_; intro nq
  go_wp2
  go_end0
  rw [tmodN]
  exact ⟨rfl, (H1.out.turn _).drewN _, (O1.out.set 65 _).drewN _⟩
theorem zeroRing : Try.zeroCells91.toList = List.replicate 64 (Value.float .f32 0) ++ [.int .i64 0, .int .i64 0] := by kernel_rfl
theorem ringOf_blk {w : World} {n : Nat} {xs : List Nat} (hl : xs.length = n) (hs : Small xs) (hn : n ≤ 64) {cs : List Value} (hc : cs = (splice ((Try.zeroCells91.setIfInBounds 64 (.int .i64 n)).toList) 0 (fvl xs))) {g : Nat} (hb : w.heap[g]? = some (.cells cs.toArray 91 (0, 0))) : RingAt w g n 0 (fun j => wd xs j) := by
  have hz : (Try.zeroCells91.setIfInBounds 64 (Value.int .i64 n)).toList = List.replicate 64 (Value.float .f32 0) ++ [.int .i64 n, .int .i64 0] := by
    rw [Array.toList_setIfInBounds, zeroRing]; rfl
  have hfl : (fvl xs).length = n := by simp [fvl, hl]
  rw [hz] at hc
  have hc2 : cs = fvl xs ++ (List.replicate (64 - n) (Value.float .f32 0) ++ [.int .i64 n, .int .i64 0]) := by
    rw [hc]; unfold splice
    rw [List.take_zero, List.nil_append, hfl, Nat.zero_add, List.drop_append_of_le_length (by simp <;> omega), List.drop_replicate]
  refine ⟨⟨cs, hb, by rw [hc2]; simp [hfl]; omega, fun j hj => ?_, ?_, ?_⟩, fun j hj => hs.at_ j⟩
  · rw [hc2]
    by_cases e : j < n
    · rw [List.getElem?_append_left (by omega)]
      unfold fvl wd
      simp [hl, e]
    · rw [List.getElem?_append_right (by omega), hfl, List.getElem?_append_left (by simp <;> omega), List.getElem?_replicate, if_pos (by omega)]
      unfold wd
      simp [List.getElem?_eq_none (show xs.length ≤ j by omega)]
  · rw [hc2, List.getElem?_append_right (by omega), hfl, List.getElem?_append_right (by simp <;> omega)]
    simp [show 64 - n - (64 - n) = 0 by omega]
  · rw [hc2, List.getElem?_append_right (by omega), hfl, List.getElem?_append_right (by simp <;> omega)]
    simp [show 65 - n - (64 - n) = 1 by omega]
theorem heap_drewN {w : World} {g : Nat} {x : Option Obj} (h : w.heap[g]? = x) (n : Nat) : (w.drewN n).heap[g]? = x := h
theorem below_drewN {B : Nat} {a w : World} (h : Below B a w) (n : Nat) : Below B a (w.drewN n) := ⟨h.os, h.tape, h.output, h.size, h.block⟩
theorem since_below {B : Nat} {w w' : World} (h : Below B w w') : w.Since B w' := ⟨h.os, h.tape, h.output, h.size, h.block⟩
set_option maxHeartbeats 2000000 in
set_option maxRecDepth 100000 in
theorem ringOf_any (A : Option Addr) (n c : Nat) (xs : List Nat) (w : World) (h : Fs w w.heap.size A n xs) (h0 : 0 < n) (hn : n ≤ 64) :
    Calls Try.prog 28 #[.slice A n c] w fun e w' => e = .returned (.pointer (some ⟨w.heap.size, 0, none⟩)) ∧ RingAt w' w.heap.size n 0 (fun j => wd xs j) ∧ w.Since w.heap.size w' := by
  have H := Lib.hid h
  have hz : (Try.zeroCells91.setIfInBounds 64 (Value.int .i64 n)).size = 66 := by
    rw [Array.size_setIfInBounds, ← Array.length_toList, zeroRing]; rfl
  have HZ := Lib.hid hz
  clear h hz
  have HB : Hid ((w.alloc (Obj.cells (Try.zeroCells91.setIfInBounds 64 (Value.int .i64 n)) 91)).heap[w.heap.size]? = some (.cells (Try.zeroCells91.setIfInBounds 64 (Value.int .i64 n)).toList.toArray 91 (0, 0))) := Lib.hid (by rw [Array.toArray_toList]; exact Go.Deep.blk_alloc_new _ _)
  have hmin : (fvl xs).length = Nat.min n 64 := by rw [show Nat.min n 64 = n from Nat.min_eq_left hn]; simp [fvl, H.out.1]
  have HM := Lib.hid hmin
  have hfl : (fvl xs).length = n := by simp [fvl, H.out.1]
  have HFL := Lib.hid hfl
  clear hmin hfl
  go_enter Try.func28, Try.ntmps28
  go_wp2_with (with_reducible refine wpList_copy_splice (o := ⟨some 13, _, _, _, _, _⟩) rfl (.tmp 11) (.tmp 12) _ _ rfl 33 Try.underlying27 (by kernel_rfl) _ _ _ _ _ _ rfl rfl w.heap.size 0 (Try.zeroCells91.setIfInBounds 64 (Value.int .i64 n)).toList 91 HB.out (fvl xs) HM.out (fun _ => ⟨rfl, fvl_cells H.out ((World.Since.refl _ _).alloc (Nat.le_refl _) _) h0⟩) (by rw [HFL.out, Array.length_toList, HZ.out]; omega) (fvl_one xs) w.heap.size w ((Below.refl _ _).alloc (Nat.le_refl _) _) (Nat.le_refl _) ?_; intro w1 hb1 hw1)
  go_ret
  exact ⟨rfl, ringOf_blk H.out.1 H.out.2.1 hn rfl hb1.out, since_below hw1⟩

theorem sl_lh (g o n : Nat) (h1 : o < n) (h2 : n ≤ 64) (W : World) : (Instr.sliceAt 89 (.pointer (some ⟨g, 0, none⟩)) (some (.int .i64 o)) (some (.int .i64 n)) none).run Try.prog W = .ok (.slice (some ⟨g, o, none⟩) (n - o) (64 - o)) W := by
  have ha : Try.prog.arrayLen 89 = 64 := by kernel_rfl
  rw [run_sliceAt_array_lh W _ _ (by kernel_rfl) .i64 .i64 _ _ (by omega) (by omega) (by rw [ha]; omega), ha]
  have hs : ((sizeOf (Try.prog.elem 89)).run Try.prog W) = .ok 1 W := by kernel_rfl
  rw [hs]
  simp only [Result.andThen, slicedAt, Int.toNat_natCast]
  rw [if_neg (by omega)]
  simp [Addr.add]
  all_goals (intro h; omega)
theorem sl_h (g o : Nat) (h2 : o < 64) (W : World) : (Instr.sliceAt 89 (.pointer (some ⟨g, 0, none⟩)) none (some (.int .i64 o)) none).run Try.prog W = .ok (.slice (some ⟨g, 0, none⟩) o 64) W := by
  have ha : Try.prog.arrayLen 89 = 64 := by kernel_rfl
  rw [run_sliceAt_array_h W _ _ (by kernel_rfl) .i64 _ (by omega) (by rw [ha]; omega), ha]
  have hs : ((sizeOf (Try.prog.elem 89)).run Try.prog W) = .ok 1 W := by kernel_rfl
  rw [hs]
  simp only [Result.andThen, slicedAt, Int.toNat_natCast]
  rw [if_neg (by omega)]
  simp [Addr.add]
theorem sl_own (B n o : Nat) (ho : o < n) (W : World) : ∃ P : Nat, (0 < o → P = n - o) ∧ ∀ W, (Instr.sliceAt 27 (.slice (some ⟨B, 0, none⟩) n n) (some (.int .i64 ((n - o : Nat) : Int))) none none).run Try.prog W = .ok (.slice (some ⟨B, P, none⟩) o o) W := by
  refine ⟨if o = 0 then 0 else n - o, fun h => by rw [if_neg (by omega)], fun W => ?_⟩
  have hs : ((sizeOf (Try.prog.elem 27)).run Try.prog W) = .ok 1 W := by kernel_rfl
  rw [run_sliceAt_slice W _ _ _ _ _ (by kernel_rfl), run_slice_l W _ _ _ _ (by kernel_rfl) .i64 _ (by omega) (by omega), hs]
  simp only [Result.andThen, sliced, Int.toNat_natCast]
  by_cases h : o = 0
  · subst h; simp
  · rw [if_neg h]
    have h1 : ¬ n = n - o := by omega
    have h2 : n - (n - o) = o := by omega
    simp [h1, h2, Addr.add]
    all_goals omega
theorem part_ring {n o : Nat} (ho : o < n) {f : Nat → Nat} {z : List Value} (hz : z.length = n) (i : Nat) (hi : i < n) :
    (splice (splice z 0 ((List.range (n - o)).map fun j => Value.float .f32 (f (o + j)))) (n - o) ((List.range o).map fun j => Value.float .f32 (f (0 + j))))[i]? = some (.float .f32 (f ((o + i) % n))) := by
  unfold splice
  simp only [List.take_zero, List.nil_append, List.length_map, List.length_range, Nat.zero_add]
  by_cases h : i < n - o
  · rw [List.getElem?_append_left (by simp <;> omega), List.getElem?_take_of_lt h, List.getElem?_append_left (by simp <;> omega)]
    rw [Nat.mod_eq_of_lt (show o + i < n by omega)]
    simp [h]
  · have e : (o + i) % n = i - (n - o) := by
      rw [show o + i = (i - (n - o)) + n by omega, Nat.add_mod_right]
      exact Nat.mod_eq_of_lt (by omega)
    rw [List.getElem?_append_right (by rw [List.length_take]; omega)]
    have e2 : (List.take (n - o) ((List.range (n - o)).map (fun j => Value.float .f32 (f (o + j))) ++ List.drop (n - o) z)).length = n - o := by rw [List.length_take]; simp <;> omega
    rw [e2, List.getElem?_append_left (by simp <;> omega), e]
    rw [List.getElem?_map, List.getElem?_range (by omega)]; simp
theorem ring_src {w : World} {g n o : Nat} {f : Nat → Nat} (h : RingAt w g n o f) (k m : Nat) (hk : k + m ≤ 64) : ∀ j v, ((List.range m).map fun j => Value.float .f32 (f (k + j)))[j]? = some v → w.cell? (({ block := g, off := k } : Addr).add j) = some v := fun j v hj => by
  have hjm : j < m := by
    have := (List.getElem?_eq_some_iff.1 hj).1
    simpa using this
  simp [hjm] at hj
  subst hj
  have e : (({ block := g, off := k } : Addr).add j) = ⟨g, k + j, none⟩ := by simp [Addr.add]
  rw [e]
  exact h.num (by omega)
theorem floats_one {m : Nat} {q : Nat → Nat} : ∀ v ∈ (List.range m).map fun j => Value.float .f32 (q j), v.oneCell' = true := fun v hv => by
  obtain ⟨x, _, rfl⟩ := List.mem_map.1 hv
  rfl
set_option maxHeartbeats 2000000 in
set_option maxRecDepth 100000 in
theorem line_any (g n o : Nat) (f : Nat → Nat) (w : World) (h : RingAt w g n o f) (ho : o < n) (hn : n ≤ 64) :
    Calls Try.prog 33 #[.pointer (some ⟨g, 0, none⟩)] w fun e w' => ∃ ys, e = .returned (.slice (some ⟨w.heap.size, 0, none⟩) n n) ∧ Gs 33 w' w.heap.size (some ⟨w.heap.size, 0, none⟩) n ys ∧ (∀ i, i < n → wd ys i = f ((o + i) % n)) ∧ w.Since w.heap.size w' := by
  have H := Lib.hid h
  have h2 := h.old
  have h3 := h.len
  have hgl := h.lt
  have hmk := fun W => run_make_row' (P := Try.prog) 27 33 (.float .f32 0) 4 Try.underlying27 Try.infoF rfl .i64 .i64 n (by omega) (by omega) W
  have b1 : (0 : Int) ≤ o := by omega
  have b2 : (o : Int) < 64 := by omega
  have b3 : (o : Int) < n := by omega
  have b4 : (n : Int) ≤ 64 := by omega
  clear h
  go_enter Try.func33, Try.ntmps33
  go_wp2
  have HR1 : Hid (RingAt (w.alloc (Obj.cells (madeCells #[Value.float FloatKind.f32 0] n) 33)) g n o f) := Lib.hid (H.out.since ((World.Since.refl _ _).alloc (Nat.le_refl _) _) hgl)
  have HS1 : Hid (w.Since w.heap.size (w.alloc (Obj.cells (madeCells #[Value.float FloatKind.f32 0] n) 33))) := Lib.hid ((World.Since.refl _ _).alloc (Nat.le_refl _) _)
  have HM1 : Hid ((w.alloc (Obj.cells (madeCells #[Value.float FloatKind.f32 0] n) 33)).heap[w.heap.size]? = some (.cells (madeCells #[Value.float FloatKind.f32 0] n).toList.toArray 33 (0, 0))) := Lib.hid (by rw [Array.toArray_toList]; exact Go.Deep.blk_alloc_new _ _)
  generalize hW1 : w.alloc (Obj.cells (madeCells #[Value.float FloatKind.f32 0] n) 33) = w1 at *
  have h2' := HR1.out.old
  have h3' := HR1.out.len
  clear h2 h3
  have hsl := sl_lh g o n ho hn
  obtain ⟨cs1, hcs1⟩ : ∃ cs1, cs1 = (List.range (n - o)).map fun j => Value.float .f32 (f (o + j)) := ⟨_, rfl⟩
  obtain ⟨cs2, hcs2⟩ : ∃ cs2, cs2 = (List.range o).map fun j => Value.float .f32 (f (0 + j)) := ⟨_, rfl⟩
  have HL1 : Hid (cs1.length = n - o) := Lib.hid (by rw [hcs1]; simp)
  have HL2 : Hid (cs2.length = o) := Lib.hid (by rw [hcs2]; simp)
  have HE1 := Lib.hid hcs1
  have HE2 := Lib.hid hcs2
  have HW1 := Lib.hid hW1
  have HZ : Hid ((madeCells #[Value.float FloatKind.f32 0] n).toList.length = n) := Lib.hid (by simp [madeCells])
  have HS1d : Hid (Below w.heap.size w w1) := Lib.hid ⟨HS1.out.os, HS1.out.tape, HS1.out.output, HS1.out.size, HS1.out.block⟩
  clear hcs1 hcs2 hW1
  refine Lo.wp_loose_tail [] 13 (by kernel_rfl) (by kernel_rfl) ?_
  simp only [List.take_succ_cons, List.take_zero, List.drop_succ_cons, List.drop_zero]
  repeat (first
    | (refine Lo.wpL_move rfl _ (.inl rfl) (by decide) ?_; simp only [Act.put, List.setIfInBounds_toArray, List.set_cons_succ, List.set_cons_zero])
    | (refine Lo.wpL_move rfl _ (.inr rfl) (by decide) ?_; simp only [Act.put, List.setIfInBounds_toArray, List.set_cons_succ, List.set_cons_zero])
    | (refine Lo.wpL_fop rfl _ _ _ _ rfl rfl (by decide) _ _ _ _ _ rfl rfl (by assumption) (by assumption) ?_; intro rr hrr; simp only [Act.put, List.setIfInBounds_toArray, List.set_cons_succ, List.set_cons_zero])
    | (refine Lo.wpL_wide rfl _ _ _ rfl (by decide) _ _ rfl (by kernel_rfl) (by kernel_rfl) (by assumption) ?_; intro rr hrr; simp only [Act.put, List.setIfInBounds_toArray, List.set_cons_succ, List.set_cons_zero])
    | (refine Lo.wpL_quiet rfl (by decide) (fun K hK => ?_); go_big_quiet_op; (refine hK _ ?_; clear hK K)))
  refine Lo.wpL_nil ?_
  refine Lo.after_nil ?_; intro nq
  clear hsl
  with_reducible refine wpList_copy_splice (o := ⟨some 23, _, _, _, _, _⟩) rfl (.tmp 10) (.tmp 22) _ _ rfl 33 Try.underlying27 (by kernel_rfl) _ _ _ _ _ _ rfl rfl w.heap.size 0 (madeCells #[Value.float FloatKind.f32 0] n).toList 33 (heap_drewN HM1.out _) cs1 (by rw [HL1.out]; exact (Nat.min_eq_left (by omega)).symm) (fun _ => ⟨rfl, _, rfl, by rw [HE1.out]; exact ring_src (HR1.out.drewN _) o (n - o) (by omega)⟩) (by rw [HL1.out, HZ.out]; omega) (by rw [HE1.out]; exact floats_one) w.heap.size w (below_drewN HS1d.out _) (Nat.le_refl _) ?_
  intro w2 hb2 hw2; rw [HL1.out]; have HB2 := Lib.hid hb2.out; have HW2 := Lib.hid hw2; clear hb2 hw2
  go_wp2
  have HR2 : Hid (RingAt w2 g n o f) := Lib.hid (H.out.since (since_below HW2.out) hgl)
  have h2'' := HR2.out.old
  have hs3 := sl_h g o (by omega)
  obtain ⟨P, hP, hs4⟩ := sl_own w.heap.size n o ho w
  have HP := Lib.hid hP
  clear h2' h3' hP
  refine Lo.wp_loose_tail [] 11 (by kernel_rfl) (by kernel_rfl) ?_
  simp only [List.take_succ_cons, List.take_zero, List.drop_succ_cons, List.drop_zero]
  repeat (first
    | (refine Lo.wpL_move rfl _ (.inl rfl) (by decide) ?_; simp only [Act.put, List.setIfInBounds_toArray, List.set_cons_succ, List.set_cons_zero])
    | (refine Lo.wpL_move rfl _ (.inr rfl) (by decide) ?_; simp only [Act.put, List.setIfInBounds_toArray, List.set_cons_succ, List.set_cons_zero])
    | (refine Lo.wpL_fop rfl _ _ _ _ rfl rfl (by decide) _ _ _ _ _ rfl rfl (by assumption) (by assumption) ?_; intro rr hrr; simp only [Act.put, List.setIfInBounds_toArray, List.set_cons_succ, List.set_cons_zero])
    | (refine Lo.wpL_wide rfl _ _ _ rfl (by decide) _ _ rfl (by kernel_rfl) (by kernel_rfl) (by assumption) ?_; intro rr hrr; simp only [Act.put, List.setIfInBounds_toArray, List.set_cons_succ, List.set_cons_zero])
    | (refine Lo.wpL_quiet rfl (by decide) (fun K hK => ?_); go_big_quiet_op; (refine hK _ ?_; clear hK K)))
  refine Lo.wpL_nil ?_
  refine Lo.after_nil ?_; intro nq
  clear hs3 hs4 h2''
  with_reducible refine wpList_copy_splice (o := ⟨some 35, _, _, _, _, _⟩) rfl (.tmp 26) (.tmp 34) _ _ rfl 33 Try.underlying27 (by kernel_rfl) _ _ _ _ _ _ rfl rfl w.heap.size (n - o) (splice (madeCells #[Value.float FloatKind.f32 0] n).toList 0 cs1) 33 (heap_drewN HB2.out _) cs2 (by rw [HL2.out]; exact (Nat.min_self _).symm) (fun h0 => ⟨by rw [HP.out (by have := HL2.out; omega)], _, rfl, by rw [HE2.out]; exact ring_src (HR2.out.drewN _) 0 o (by omega)⟩) (by rw [HL2.out, length_splice _ _ _ (by rw [HL1.out, HZ.out]; omega), HZ.out]; omega) (by rw [HE2.out]; exact floats_one) w.heap.size w (below_drewN HW2.out _) (Nat.le_refl _) ?_
  intro w3 hb3 hw3
  have HB3 := Lib.hid hb3.out; have HW3 := Lib.hid hw3; clear hb3 hw3
  go_wp2
  go_ret
  refine ⟨(List.range n).map fun i => f ((o + i) % n), rfl, ⟨by simp, fun y hy => ?_, fun _ => ⟨_, _, rfl, Nat.le_refl _, HB3.out, fun k hk => ?_⟩⟩, fun i hi => ?_, since_below HW3.out⟩
  · obtain ⟨i, _, rfl⟩ := List.mem_map.1 hy
    exact H.out.small _ (Nat.lt_of_lt_of_le (Nat.mod_lt _ (by omega)) hn)
  · rw [HE1.out, HE2.out]
    have h1 := part_ring ho (f := f) HZ.out k hk
    rw [List.getElem?_toArray, h1]
    unfold fv wd
    simp [hk]
  · unfold wd; simp [hi]
set_option maxHeartbeats 2000000 in
set_option maxRecDepth 100000 in
theorem throughDelay_any (d : DelN) (D : Del) (g n o : Nat) (f : Nat → Nat) (x : Nat) (X : O) (w : World) (hD : FvD d D) (h : RingAt w g n o f) (ho : o < n) (hn : n ≤ 64) (hx : Hid (Fv .f32 x X)) :
    Calls Try.prog 44 #[d.val, .pointer (some ⟨g, 0, none⟩), .float .f32 x] w fun e w' => ∃ r v : Nat, e = .returned (.float .f32 r) ∧ Hid (Fv .f32 r (DelY D X (ab .f32 (f o)))) ∧ Hid (Fv .f32 v (DelV d.fl D X (ab .f32 (f o)))) ∧ RingAt w' g n ((o + 1) % n) (fun i => if i = o then v else f i) ∧ On g w w' := by
  have hgl := h.lt
  have hbv : Hid (Fv .f32 (f o) (ab .f32 (f o))) := Lib.hid ⟨h.small o (by omega), rfl⟩
  obtain ⟨dl, dfb, ddry, dwet, dfl⟩ := d
  obtain ⟨f1, f2, f3⟩ := hD
  simp only at f1 f2 f3
  have HR : Hid (RingAt (w.alloc (.cells #[.int .i64 dl, .float .f32 dfb, .float .f32 ddry, .float .f32 dwet, .bool dfl] 39)) g n o f) := Lib.hid (h.since ((World.Since.refl _ _).alloc (Nat.le_refl _) _) hgl)
  clear h
  unfold DelN.val
  cases dfl
  · go_enter Try.func44, Try.ntmps44
    go_wp2_with (first | (with_reducible_and_instances refine Lo.wpList_fo _ rfl _ _ _ _ _ rfl _ _ _ _ _ rfl rfl rfl (by assumption) (by assumption) ?_; intro rr nn hrr) | (go_at_call 65; refine (oldest_any g n o f _ HR.out (by omega)).mono ?_; rintro e w' ⟨rfl, m, rfl⟩) | (go_at_call 32; refine (take_any g n o _ f _ (HR.out.drewN _) ho hn (by exact hrr.1)).mono ?_; have hv0 := hrr; rintro e w1 ⟨rfl, hr1, ho1⟩; have HR1 := Lib.hid hr1; have HO1 := Lib.hid ho1; obtain ⟨hc1, hf1⟩ := on_cells ho1 (b := w.heap.size) (by simp) (by omega); clear hr1 ho1))
    go_ret
    exact ⟨_, _, rfl, hrr, hv0, HR1.out.drewN _, ((On.refl g w).alloc (by omega) _).trans (HO1.out.before _)⟩
  · go_enter Try.func44, Try.ntmps44
    go_wp2_with (first | (with_reducible_and_instances refine Lo.wpList_fo _ rfl _ _ _ _ _ rfl _ _ _ _ _ rfl rfl rfl (by assumption) (by assumption) ?_; intro rr nn hrr) | (go_at_call 66; refine (implFlush_any _ _ (by exact hrr.1)).mono ?_; rintro e w' ⟨rfl, rfl⟩; have hfl := flO_fv hrr true; simp only [if_true] at hfl) | (go_at_call 65; refine (oldest_any g n o f _ HR.out (by omega)).mono ?_; rintro e w' ⟨rfl, m, rfl⟩) | (go_at_call 32; refine (take_any g n o _ f _ (HR.out.drewN _) ho hn (by exact hfl.1)).mono ?_; have hv0 := hfl; rintro e w1 ⟨rfl, hr1, ho1⟩; have HR1 := Lib.hid hr1; have HO1 := Lib.hid ho1; obtain ⟨hc1, hf1⟩ := on_cells ho1 (b := w.heap.size) (by simp) (by omega); clear hr1 ho1))
    go_ret
    exact ⟨_, _, rfl, hrr, hv0, HR1.out.drewN _, ((On.refl g w).alloc (by omega) _).trans (HO1.out.before _)⟩
end Go.Proofs.Ytflpackchlpedaa
