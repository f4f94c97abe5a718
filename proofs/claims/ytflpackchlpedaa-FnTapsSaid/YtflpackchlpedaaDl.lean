/- Delays: the model's lines. -/
import Derived.Test.YtflpackchlpedaaDa
import Derived.Test.YtflpackchlpedaaSh
import Derived.Test.YtflpackchlpedaaLv
import Derived.Test.YtflpackchlpedaaRg
set_option linter.unusedVariables false
set_option linter.unusedSimpArgs false
namespace Go.Proofs.Ytflpackchlpedaa
namespace Fl
/-- only block g, among those that there are, may have changed -/
def On (g : Nat) (w w' : World) : Prop := w.Since g w' ∧ ∀ b, b < w.heap.size → b ≠ g → w'.heap[b]? = w.heap[b]?
theorem On.refl (g : Nat) (w : World) : On g w w := ⟨World.Since.refl _ _, fun _ _ _ => rfl⟩
theorem On.trans {g : Nat} {a b c : World} (h : On g a b) (k : On g b c) : On g a c :=
  ⟨h.1.trans k.1, fun i hi hn => (k.2 i (Nat.lt_of_lt_of_le hi h.1.size) hn).trans (h.2 i hi hn)⟩
theorem On.drewN {g : Nat} {a b : World} (h : On g a b) (n : Nat) : On g a (b.drewN n) := ⟨since_drewN h.1 n, h.2⟩
theorem On.set {g : Nat} {a b : World} (h : On g a b) (o : Nat) (v : Value) : On g a (b.setCell ⟨g, o, none⟩ v) :=
  ⟨h.1.setCell (Nat.le_refl _) v, fun i hi hn => by rw [Go.Deep.blk_setCell_other _ _ _ _ hn]; exact h.2 i hi hn⟩
theorem On.alloc {g : Nat} {a b : World} (h : On g a b) (hg : g ≤ b.heap.size) (o : Obj) : On g a (b.alloc o) :=
  ⟨h.1.alloc hg o, fun i hi hn => by
    have hlt : i < b.heap.size := Nat.lt_of_lt_of_le hi h.1.size
    have e : (b.alloc o).heap[i]? = b.heap[i]? := by
      show (b.heap.push o)[i]? = _
      rw [Array.getElem?_push_lt hlt]; exact (Array.getElem?_eq_getElem hlt).symm
    rw [e]; exact h.2 i hi hn⟩
theorem On.since {g lo : Nat} {a b : World} (h : On g a b) (hl : lo ≤ g) : a.Since lo b := since_mono h.1 hl
theorem On.from {g lo : Nat} {w a b : World} (s : w.Since lo a) (h : On g a b) (hl : lo ≤ g) : w.Since lo b := s.trans (h.since hl)
theorem Gs.on {T : TypeId} {w w' : World} {lo n g : Nat} {A : Option Addr} {xs : List Nat} (h : Gs T w lo A n xs) (o : On g w w') (hd : ∀ s t, A ≠ some ⟨g, s, t⟩) : Gs T w' lo A n xs :=
  ⟨h.1, h.2.1, fun hn => by
    obtain ⟨b, cs, e, hb, hh, hc⟩ := h.2.2 hn
    refine ⟨b, cs, e, hb, (o.2 b (Array.getElem?_eq_some_iff.1 hh).1 ?_).trans hh, hc⟩
    rintro rfl
    exact hd _ _ e⟩
theorem Fs.on {w w' : World} {B n g : Nat} {A : Option Addr} {xs : List Nat} (h : Fs w B A n xs) (o : On g w w') (hB : B ≤ g) : Fs w' B A n xs := h.since (o.since hB)
theorem own_on {T : TypeId} {w w' : World} {lo n s g : Nat} {v : Value} {xs : List Value} (h : w.ownsRow lo T s v n xs) (o : On g w w') (hl : g < lo) : w'.ownsRow lo T s v n xs := by
  obtain ⟨h1, h2⟩ := h
  refine ⟨h1, ?_⟩
  rcases h2 with h2 | ⟨b, cap, cur, e, hb, hh, r⟩
  · exact .inl h2
  · exact .inr ⟨b, cap, cur, e, hb, (o.2 b (Array.getElem?_eq_some_iff.1 hh).1 (by omega)).trans hh, r⟩
/-- the words of a list stand for these -/
def Are' (n : Nat) (xs : List Nat) (f : Nat → Option Nat) : Prop := ∀ k, k < n → ab .f32 (wd xs k) = f k
theorem wd_shift {ys : List Nat} {x n : Nat} (h : ys.length = n) (hn : 0 < n) (j : Nat) (hj : j < n) : wd (ys.drop 1 ++ [x]) j = if j + 1 < n then wd ys (j + 1) else x := by
  rw [wd_snoc (n := n - 1) (by simp [h])]
  by_cases e : j + 1 < n
  · rw [if_pos (by omega), if_pos e]
    unfold wd
    simp [Nat.add_comm]
  · rw [if_neg (by omega), if_pos (by omega), if_neg e]
theorem Small.shift {ys : List Nat} {x : Nat} (h : Small ys) (hx : x < 4294967296) : Small (ys.drop 1 ++ [x]) := Small.snoc (fun y hy => h y (List.mem_of_mem_drop hy)) hx
end Fl
open Fl Go.RowKit
/-- a line whose first numbers have been moved -/
def shifted (ys : List Nat) (i j : Nat) : Value := if j + 1 < i then fv ys (j + 1) else fv ys j
def GCells (w : World) (g : Nat) (n : Nat) (f : Nat → Value) : Prop := ∃ cs, w.heap[g]? = some (.cells cs 33 (0, 0)) ∧ ∀ j, j < n → cs[j]? = some (f j)
theorem GCells.cell {w : World} {g n : Nat} {f : Nat → Value} (h : GCells w g n f) {j : Nat} (hj : j < n) : w.cell? ⟨g, j, none⟩ = some (f j) := by
  obtain ⟨cs, hb, hc⟩ := h
  simp only [World.cell?, hb]
  simpa using hc j hj
theorem GCells.free {w : World} {g n : Nat} {f : Nat → Value} (h : GCells w g n f) (j : Nat) : w.frozen? ⟨g, j, none⟩ = false := by
  obtain ⟨cs, hb, hc⟩ := h
  simp [World.frozen?, hb]
theorem GCells.set {w : World} {g n : Nat} {f : Nat → Value} (h : GCells w g n f) (k : Nat) (v : Value) : GCells (w.setCell ⟨g, k, none⟩ v) g n (fun j => if j = k then v else f j) := by
  obtain ⟨cs, hb, hc⟩ := h
  refine ⟨cs.setIfInBounds k v, by simp [World.setCell, Array.getElem?_modify, hb], fun j hj => ?_⟩
  rw [Array.getElem?_setIfInBounds]
  have hsz2 : j < cs.size := (Array.getElem?_eq_some_iff.1 (hc j hj)).1
  show _ = some (if j = k then v else f j)
  by_cases e : k = j
  · subst e; rw [if_pos rfl, if_pos hsz2, if_pos rfl]
  · rw [if_neg e, if_neg (Ne.symm e)]; exact hc j hj
theorem GCells.congr {w : World} {g n : Nat} {f f' : Nat → Value} (h : GCells w g n f) (e : ∀ j, j < n → f j = f' j) : GCells w g n f' := by
  obtain ⟨cs, hb, hc⟩ := h
  exact ⟨cs, hb, fun j hj => by rw [← e j hj]; exact hc j hj⟩
theorem GCells.drewN {w : World} {g n : Nat} {f : Nat → Value} (h : GCells w g n f) (k : Nat) : GCells (w.drewN k) g n f := h
theorem GCells.lt {w : World} {g n : Nat} {f : Nat → Value} (h : GCells w g n f) : g < w.heap.size := by
  obtain ⟨cs, hb, hc⟩ := h
  exact (Array.getElem?_eq_some_iff.1 hb).1

set_option maxHeartbeats 1000000 in
theorem specTake_any (g n c : Nat) (ys : List Nat) (x : Nat) (w : World) (lo : Nat) (h : Gs 33 w lo (some ⟨g, 0, none⟩) n ys) (h0 : 0 < n) (hn : n ≤ 1048576) (hx : x < 4294967296) :
    Calls Try.prog 72 #[.slice (some ⟨g, 0, none⟩) n c, .float .f32 x] w fun e w' => e = .returned (.tuple #[]) ∧ Gs 33 w' lo (some ⟨g, 0, none⟩) n (ys.drop 1 ++ [x]) ∧ On g w w' := by
  have HG := Lib.hid h
  obtain ⟨g', cs, e, hg, hb, hc⟩ := h.2.2 h0
  injection e with e; injection e with e1 _ _; subst e1
  clear h
  have HC : Hid (GCells w g n (shifted ys 1)) := Lib.hid ⟨cs, hb, fun j hj => by rw [hc j hj]; unfold shifted; rw [if_neg (by omega)]⟩
  clear hb hc
  go_enter Try.func72, Try.ntmps72
  go_wp2
  go_loopw [4] (fun i wr => ∃ k : Nat, 1 ≤ k ∧ k ≤ n ∧ i = .int .i64 k ∧ GCells wr g n (shifted ys k) ∧ On g w wr) (fun i _ => n - (intOf i).toNat)
  case atStart => exact ⟨1, by omega, by omega, rfl, HC.out, On.refl _ _⟩
  case round =>
    obtain ⟨k, hk1, hk, rfl, hcc, hon⟩ := hrel
    have HCC := Lib.hid hcc
    have HON := Lib.hid hon
    clear hcc hon
    by_cases hlt : k < n
    · have hc1 : wr.cell? ⟨g, k, none⟩ = some (fv ys k) := by rw [HCC.out.cell hlt]; unfold shifted; rw [if_neg (by omega)]
      have hc2 : wr.cell? ⟨g, k - 1, none⟩ = some (shifted ys k (k - 1)) := HCC.out.cell (by omega)
      have hf2 : wr.frozen? ⟨g, k - 1, none⟩ = false := HCC.out.free _
      unfold fv at hc1
      go_wp2
      go_roundw
      case rel =>
        refine ⟨k + 1, by omega, by omega, by go_num, (HCC.out.set (k - 1) _).congr (fun j hj => ?_), HON.out.set _ _⟩
        unfold shifted fv
        by_cases e : j = k - 1
        · rw [if_pos e, if_pos (by omega), e, show k - 1 + 1 = k by omega]
        · rw [if_neg e]
          by_cases e2 : j + 1 < k
          · rw [if_pos e2, if_pos (by omega)]
          · rw [if_neg e2, if_neg (by omega)]
      case measure => simp [intOf]; omega
    · obtain rfl : k = n := by omega
      have hc2 : wr.cell? ⟨g, k - 1, none⟩ = some (shifted ys k (k - 1)) := HCC.out.cell (by omega)
      have hf2 : wr.frozen? ⟨g, k - 1, none⟩ = false := HCC.out.free _
      go_wp2
      go_end0
      refine ⟨rfl, ⟨by have := HG.out.1; simp [this]; omega, HG.out.2.1.shift hx, fun _ => ?_⟩, HON.out.set _ _⟩
      obtain ⟨cs', hb', hc'⟩ := HCC.out.set (k - 1) (.float .f32 x)
      refine ⟨g, cs', rfl, hg, hb', fun j hj => ?_⟩
      rw [hc' j hj]
      unfold fv
      rw [wd_shift HG.out.1 h0 j hj]
      unfold shifted fv
      dsimp only
      by_cases e : j = k - 1
      · rw [if_pos e, if_neg (by omega)]
      · rw [if_neg e, if_pos (by omega), if_pos (by omega)]

structure DelAt (w : World) (g : Nat) (d : DelN) : Prop where
  lt : g < w.heap.size
  l : w.cell? ⟨g, 0, none⟩ = some (.int .i64 d.l)
  fb : w.cell? ⟨g, 1, none⟩ = some (.float .f32 d.fb)
  dry : w.cell? ⟨g, 2, none⟩ = some (.float .f32 d.dry)
  wet : w.cell? ⟨g, 3, none⟩ = some (.float .f32 d.wet)
  fl : w.cell? ⟨g, 4, none⟩ = some (.bool d.fl)
theorem cell_of_block {w w' : World} {b : Nat} (h : w'.heap[b]? = w.heap[b]?) (o : Nat) : w'.cell? ⟨b, o, none⟩ = w.cell? ⟨b, o, none⟩ := by simp only [World.cell?, h]
theorem DelAt.of {w w' : World} {g : Nat} {d : DelN} (h : DelAt w g d) (hs : w.heap.size ≤ w'.heap.size) (e : w'.heap[g]? = w.heap[g]?) : DelAt w' g d :=
  ⟨Nat.lt_of_lt_of_le h.lt hs, (cell_of_block e _).trans h.l, (cell_of_block e _).trans h.fb, (cell_of_block e _).trans h.dry, (cell_of_block e _).trans h.wet, (cell_of_block e _).trans h.fl⟩
theorem DelAt.on {w w' : World} {g b : Nat} {d : DelN} (h : DelAt w g d) (o : On b w w') (hn : g ≠ b) : DelAt w' g d := h.of o.1.size (o.2 g h.lt hn)
/-- words of a delay stand for these -/
structure Del where
  fb : O
  dry : O
  wet : O
structure FvD (d : DelN) (D : Del) : Prop where
  fb : Hid (Fv .f32 d.fb D.fb)
  dry : Hid (Fv .f32 d.dry D.dry)
  wet : Hid (Fv .f32 d.wet D.wet)
def DelY (D : Del) (x b : O) : O := delY D.dry D.wet x b
def DelV (fu : Bool) (D : Del) (x b : O) : O := delV fu D.fb x b
/-- what a line is behind a number that it has taken -/
def took (n : Nat) (L : Nat → O) (v : O) (i : Nat) : O := if i + 1 < n then L (i + 1) else v

theorem on_cells {g b : Nat} {w w' : World} (h : On g w w') (hb : b < w.heap.size) (hn : b ≠ g) : (∀ o, w'.cell? ⟨b, o, none⟩ = w.cell? ⟨b, o, none⟩) ∧ (∀ o, w'.frozen? ⟨b, o, none⟩ = w.frozen? ⟨b, o, none⟩) :=
  ⟨fun o => cell_of_block (h.2 b hb hn) o, fun o => by simp only [World.frozen?, h.2 b hb hn]⟩
theorem DelAt.drewN {w : World} {g : Nat} {d : DelN} (h : DelAt w g d) (k : Nat) : DelAt (w.drewN k) g d := ⟨h.lt, h.l, h.fb, h.dry, h.wet, h.fl⟩
theorem Fl.On.before {g : Nat} {w w' : World} {m : Nat} (h : On g (w.drewN m) w') (n : Nat) : On g w (w'.drewN n) := ⟨⟨h.1.os, h.1.tape, h.1.output, h.1.size, h.1.block⟩, h.2⟩
theorem specDelay_end {w w1 : World} {lo g n r v : Nat} {ys : List Nat} {L : Nat → O} {Y V : O} {e : Ending} (he : e = .returned (.float .f32 r)) (hr : Hid (Fv .f32 r Y)) (h : Gs 33 w1 lo (some ⟨g, 0, none⟩) n (ys.drop 1 ++ [v]))
    (hl : ys.length = n) (h0 : 0 < n) (hL : Are' n ys L) (hv : Hid (Fv .f32 v V)) (ho : On g w w1) :
    ∃ (r : Nat) (zs : List Nat), e = .returned (.float .f32 r) ∧ Hid (Fv .f32 r Y) ∧ Gs 33 w1 lo (some ⟨g, 0, none⟩) n zs ∧ Are' n zs (took n L V) ∧ On g w w1 :=
  ⟨r, _, he, hr, h, fun i hi => by
    rw [wd_shift hl h0 i hi]
    unfold took
    by_cases e : i + 1 < n
    · rw [if_pos e, if_pos e]; exact hL _ e
    · rw [if_neg e, if_neg e]; exact hv.out.2, ho⟩

set_option maxHeartbeats 2000000 in
set_option maxRecDepth 100000 in
theorem specDelay_any (d : DelN) (D : Del) (gd g n c : Nat) (ys : List Nat) (L : Nat → O) (x : Nat) (X : O) (w : World) (lo : Nat) (hd : DelAt w gd d) (hD : FvD d D) (hgd : gd ≠ g)
    (h : Gs 33 w lo (some ⟨g, 0, none⟩) n ys) (hL : Are' n ys L) (h0 : 0 < n) (hn : n ≤ 1048576) (hx : Hid (Fv .f32 x X)) :
    Calls Try.prog 56 #[.pointer (some ⟨gd, 0, none⟩), .slice (some ⟨g, 0, none⟩) n c, .float .f32 x] w fun e w' =>
      ∃ (r : Nat) (zs : List Nat), e = .returned (.float .f32 r) ∧ Hid (Fv .f32 r (DelY D X (L 0))) ∧ Gs 33 w' lo (some ⟨g, 0, none⟩) n zs ∧ Are' n zs (took n L (DelV d.fl D X (L 0))) ∧ On g w w' := by
  obtain ⟨dl, dfb, ddry, dwet, dfl⟩ := d
  obtain ⟨f1, f2, f3⟩ := hD
  obtain ⟨hgl, hcl, hcfb, hcdry, hcwet, hcfl⟩ := hd
  simp only at f1 f2 f3 hcl hcfb hcdry hcwet hcfl
  have hb0 : w.cell? ⟨g, 0, none⟩ = some (.float .f32 (wd ys 0)) := by
    obtain ⟨g', cs, e, hg, hb, hc⟩ := h.2.2 h0
    injection e with e; injection e with e1 _ _; subst e1
    have h1 := hc 0 h0
    unfold fv at h1
    simp only [World.cell?, hb]
    simpa using h1
  have hbv : Hid (Fv .f32 (wd ys 0) (L 0)) := Lib.hid ⟨h.2.1.at_ 0, hL 0 h0⟩
  have HG := Lib.hid h
  have HL := Lib.hid hL
  clear h hL
  have HD : Hid (DelAt w gd ⟨dl, dfb, ddry, dwet, dfl⟩) := Lib.hid ⟨hgl, hcl, hcfb, hcdry, hcwet, hcfl⟩
  cases dfl
  · go_enter Try.func56, Try.ntmps56
    go_wp2_with (first | (with_reducible_and_instances refine Lo.wpList_fo _ rfl _ _ _ _ _ rfl _ _ _ _ _ rfl rfl rfl (by assumption) (by assumption) ?_; intro rr nn hrr) | (go_at_call 72; refine (specTake_any g n c ys _ _ lo (HG.out.drewN _) h0 hn (by exact hrr.1)).mono ?_; have hv0 := hrr; rintro e w1 ⟨rfl, hg1, ho1⟩; have hd1 := (HD.out.drewN _).on ho1 hgd; have HG1 := Lib.hid hg1; have HO1 := Lib.hid ho1; clear hg1 ho1 hcl hcfb hcdry hcwet hcfl; obtain ⟨hgl1, hcl1, hcfb1, hcdry1, hcwet1, hcfl1⟩ := hd1; simp only at hcl1 hcfb1 hcdry1 hcwet1 hcfl1))
    refine Lo.wp_loose_all [34, 40, 41, 6] (by kernel_rfl) (by kernel_rfl) ?_
    repeat (first
      | (refine Lo.wpL_move rfl _ (.inl rfl) (by decide) ?_; simp only [Act.put, List.setIfInBounds_toArray, List.set_cons_succ, List.set_cons_zero])
      | (refine Lo.wpL_move rfl _ (.inr rfl) (by decide) ?_; simp only [Act.put, List.setIfInBounds_toArray, List.set_cons_succ, List.set_cons_zero])
      | (refine Lo.wpL_fop rfl _ _ _ _ rfl rfl (by decide) _ _ _ _ _ rfl rfl (by assumption) (by assumption) ?_; intro rr hrr; simp only [Act.put, List.setIfInBounds_toArray, List.set_cons_succ, List.set_cons_zero])
      | (refine Lo.wpL_wide rfl _ _ _ rfl (by decide) _ _ rfl (by kernel_rfl) (by kernel_rfl) (by assumption) ?_; intro rr hrr; simp only [Act.put, List.setIfInBounds_toArray, List.set_cons_succ, List.set_cons_zero])
      | (refine Lo.wpL_quiet rfl (by decide) (fun K hK => ?_); go_big_quiet_op; (refine hK _ ?_; clear hK K)))
    refine Lo.wpL_nil ?_
    refine Lo.after_fl rfl (by assumption) ?_; intro q34 h34; simp only [Act.put, List.setIfInBounds_toArray, List.set_cons_succ, List.set_cons_zero]
    refine Lo.after_fl rfl (by assumption) ?_; intro q40 h40; simp only [Act.put, List.setIfInBounds_toArray, List.set_cons_succ, List.set_cons_zero]
    refine Lo.after_fl rfl (by assumption) ?_; intro q41 h41; simp only [Act.put, List.setIfInBounds_toArray, List.set_cons_succ, List.set_cons_zero]
    refine Lo.after_fl rfl (by assumption) ?_; intro q6 h6; simp only [Act.put, List.setIfInBounds_toArray, List.set_cons_succ, List.set_cons_zero]
    refine Lo.after_nil ?_; intro nq
    go_wp2
    go_ret
    exact specDelay_end rfl h6 (HG1.out) HG.out.1 h0 HL.out (by exact hv0) (HO1.out.before _)
  · go_enter Try.func56, Try.ntmps56
    go_wp2_with (first | (with_reducible_and_instances refine Lo.wpList_fo _ rfl _ _ _ _ _ rfl _ _ _ _ _ rfl rfl rfl (by assumption) (by assumption) ?_; intro rr nn hrr) | (go_at_call 71; refine (specFlush_any _ _ (by exact hrr.1)).mono ?_; rintro e w' ⟨rfl, rfl⟩; have hfl := flO_fv hrr true; simp only [if_true] at hfl) | (go_at_call 72; refine (specTake_any g n c ys _ _ lo (HG.out.drewN _) h0 hn (by exact hfl.1)).mono ?_; rintro e w1 ⟨rfl, hg1, ho1⟩; have hd1 := (HD.out.drewN _).on ho1 hgd; have HG1 := Lib.hid hg1; have HO1 := Lib.hid ho1; clear hg1 ho1 hcl hcfb hcdry hcwet hcfl; obtain ⟨hgl1, hcl1, hcfb1, hcdry1, hcwet1, hcfl1⟩ := hd1; simp only at hcl1 hcfb1 hcdry1 hcwet1 hcfl1))
    refine Lo.wp_loose_all [34, 40, 41, 6] (by kernel_rfl) (by kernel_rfl) ?_
    repeat (first
      | (refine Lo.wpL_move rfl _ (.inl rfl) (by decide) ?_; simp only [Act.put, List.setIfInBounds_toArray, List.set_cons_succ, List.set_cons_zero])
      | (refine Lo.wpL_move rfl _ (.inr rfl) (by decide) ?_; simp only [Act.put, List.setIfInBounds_toArray, List.set_cons_succ, List.set_cons_zero])
      | (refine Lo.wpL_fop rfl _ _ _ _ rfl rfl (by decide) _ _ _ _ _ rfl rfl (by assumption) (by assumption) ?_; intro rr hrr; simp only [Act.put, List.setIfInBounds_toArray, List.set_cons_succ, List.set_cons_zero])
      | (refine Lo.wpL_wide rfl _ _ _ rfl (by decide) _ _ rfl (by kernel_rfl) (by kernel_rfl) (by assumption) ?_; intro rr hrr; simp only [Act.put, List.setIfInBounds_toArray, List.set_cons_succ, List.set_cons_zero])
      | (refine Lo.wpL_quiet rfl (by decide) (fun K hK => ?_); go_big_quiet_op; (refine hK _ ?_; clear hK K)))
    refine Lo.wpL_nil ?_
    refine Lo.after_fl rfl (by assumption) ?_; intro q34 h34; simp only [Act.put, List.setIfInBounds_toArray, List.set_cons_succ, List.set_cons_zero]
    refine Lo.after_fl rfl (by assumption) ?_; intro q40 h40; simp only [Act.put, List.setIfInBounds_toArray, List.set_cons_succ, List.set_cons_zero]
    refine Lo.after_fl rfl (by assumption) ?_; intro q41 h41; simp only [Act.put, List.setIfInBounds_toArray, List.set_cons_succ, List.set_cons_zero]
    refine Lo.after_fl rfl (by assumption) ?_; intro q6 h6; simp only [Act.put, List.setIfInBounds_toArray, List.set_cons_succ, List.set_cons_zero]
    refine Lo.after_nil ?_; intro nq
    go_wp2
    go_ret
    exact specDelay_end rfl h6 (HG1.out) HG.out.1 h0 HL.out (by exact hfl) (HO1.out.before _)
theorem fvl_one (xs : List Nat) : ∀ v ∈ fvl xs, v.oneCell' = true := fun v hv => by
  obtain ⟨x, _, rfl⟩ := List.mem_map.1 hv
  rfl
theorem fvl_cells {w w1 : World} {A : Option Addr} {n : Nat} {xs : List Nat} (h : Fs w w.heap.size A n xs) (s : w.Since w.heap.size w1) (h0 : 0 < n) : ∃ ad, A = some ad ∧ ∀ j v, (fvl xs)[j]? = some v → w1.cell? (ad.add j) = some v := by
  obtain ⟨g, off, rfl, hg, hc⟩ := h.2.2 h0
  refine ⟨_, rfl, fun j v hj => ?_⟩
  unfold fvl at hj
  rw [List.getElem?_map] at hj
  cases hx : xs[j]? with
  | none => rw [hx] at hj; cases hj
  | some x =>
    rw [hx] at hj
    injection hj with hj
    subst hj
    have hjn : j < n := by rw [← h.1]; exact (List.getElem?_eq_some_iff.1 hx).1
    have e : (({ block := g, off := off } : Addr).add j) = ⟨g, off + j, none⟩ := by simp [Addr.add]
    rw [e]
    refine (s.cell (a := ⟨g, off + j, none⟩) hg).trans ((hc j hjn).trans ?_)
    unfold fv wd
    simp [hx]
end Go.Proofs.Ytflpackchlpedaa
