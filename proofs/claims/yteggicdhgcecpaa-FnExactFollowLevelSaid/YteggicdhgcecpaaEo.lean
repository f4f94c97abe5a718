/- Dynamics: levels, the model's. -/
import Derived.Test.YteggicdhgcecpaaEn
import Derived.Test.YteggicdhgcecpaaEc
set_option linter.unusedVariables false
set_option linter.unusedSimpArgs false
namespace Go.Proofs.Yteggicdhgcecpaa
namespace Lo
open Fl Ieee
section
variable {P : Program} {ops : Array Oper} {rest : List Oper} {o : Oper} {a : Act} {Q : Act → Prop} {ds : List Nat}
theorem keeps (ts : List Nat) (vs : List Value) (hv : ts.map (fun t => a.tmps.getD t undef) = vs) (ht : ts.all (fun t => !ds.contains t) = true) (b : Act) (h : AR (fun i => ds.contains i) a b) : (ts.map Operand.tmp).map b.eval = vs := by
  subst hv
  rw [List.map_map]
  refine List.map_congr_left fun t hm => ?_
  have h1 := List.all_eq_true.1 ht t hm
  exact (h.2.2 t).2 (by simpa using h1)
/-- a call of a Go function, of nothing that the statement computes, which gives a float -/
theorem wpL_callF {w : World} (hg : o.guard = none) (f : FuncId) (ys : List Operand) (vs : List Value) (tys : Array TypeId) (hop : o.op = Op.call ⟨.value (.func f), ys.toArray, tys⟩) (hd : ∀ d, o.dst = some d → ds.contains d = true)
    (henter : ∀ args w2, (callFunc f args).run P w2 = .ok (.enter f args) w2)
    (k2 : FloatKind) (F : Option Nat) (hys : ∀ b, AR (fun i => ds.contains i) a b → ys.map b.eval = vs)
    (hc : ∀ m, Calls P f vs.toArray (w.drewN m) fun e w2 => ∃ r n, e = .returned (.float k2 r) ∧ Fv k2 r F ∧ w2 = w.drewN n)
    (hex : ∃ r, Fv k2 r F)
    (hK : ∀ r, RowKit.Hid (Fv k2 r F) → wpL P ops (fun v => ∃ n, v = w.drewN n) (fun i => ds.contains i) Q rest (a.put o.dst (.float k2 r))) :
    wpL P ops (fun v => ∃ n, v = w.drewN n) (fun i => ds.contains i) Q (o :: rest) a := by
  obtain ⟨r, hr⟩ := hex
  refine wpL_of_loose hg (fun b hab w2 hw => ?_) (hK r hr)
  have e : (execOp b.eval o).run P w2 = .ok (.enter f vs.toArray) w2 := by
    have h1 := hys b hab
    have ef : b.eval (.func f) = .func (.func f) #[] #[] := rfl
    simp [execOp, hop, resolve, ef, h1, invoke, Deferred.ofValue, henter, Result.andThen]
  rw [e]
  obtain ⟨m, rfl⟩ := hw
  refine ⟨⟨m, rfl⟩, (hc m).mono fun e2 w3 ⟨r2, n, he, hr2, hw3⟩ => ⟨_, he, ⟨.inr ⟨k2, r, r2, rfl, rfl, hr.1, hr2.1, by rw [hr.2, hr2.2]⟩, fun d hd2 hf2 => by have := hd d hd2; simp_all⟩, n, hw3⟩⟩
end
end Lo
open Fl Go.RowKit
/-- a follower's block -/
def FolB (w : World) (g a r l : Nat) : Prop := w.heap[g]? = some (.cells #[.float .f32 a, .float .f32 r, .float .f32 l] 42 (0, 0))
theorem FolB.at_ {w : World} {g a r l : Nat} (h : FolB w g a r l) : FolAt w g a r l := by
  unfold FolB at h
  exact ⟨(Array.getElem?_eq_some_iff.1 h).1, by simp [World.cell?, h], by simp [World.cell?, h], by simp [World.cell?, h]⟩
theorem FolB.free {w : World} {g a r l o : Nat} (h : FolB w g a r l) : w.frozen? ⟨g, o, none⟩ = false := by
  unfold FolB at h
  simp [World.frozen?, h]
theorem FolB.of {w w' : World} {g a r l : Nat} (h : FolB w g a r l) (e : w'.heap[g]? = w.heap[g]?) : FolB w' g a r l := e.trans h
theorem FolB.set {w : World} {g a r l q : Nat} (h : FolB w g a r l) : FolB (w.setCell ⟨g, 2, none⟩ (.float .f32 q)) g a r q := by
  unfold FolB at h ⊢
  simp [World.setCell, Array.getElem?_modify, h]
theorem FolAt.drewN {w : World} {g a r l : Nat} (h : FolAt w g a r l) (m : Nat) : FolAt (w.drewN m) g a r l := ⟨h.lt, h.a, h.r, h.l⟩
theorem FolB.set3 {w : World} {g a r l x y z : Nat} (h : FolB w g x y z) : FolB (((w.setCell ⟨g, 0, none⟩ (.float .f32 a)).setCell ⟨g, 1, none⟩ (.float .f32 r)).setCell ⟨g, 2, none⟩ (.float .f32 l)) g a r l := by
  unfold FolB at h ⊢
  simp [World.setCell, Array.getElem?_modify, h]
theorem _root_.Go.Proofs.Yteggicdhgcecpaa.Fl.Gs.onLow {T : TypeId} {w w' : World} {lo n g : Nat} {A : Option Addr} {xs : List Nat} (h : Gs T w lo A n xs) (o : On g w w') (hd : g < lo) : Gs T w' lo A n xs :=
  ⟨h.1, h.2.1, fun hn => by
    obtain ⟨b, cs, e, hb, hh, hc⟩ := h.2.2 hn
    exact ⟨b, cs, e, hb, (o.2 b (Array.getElem?_eq_some_iff.1 hh).1 (by omega)).trans hh, hc⟩⟩
theorem blk_keep {w : World} {b : Nat} (o : Obj) (h : b < w.heap.size) : (w.alloc o).heap[b]? = w.heap[b]? := ((World.Since.refl w.heap.size w).alloc (Nat.le_refl _) o).block b h
structure FolN where
  a : Nat
  r : Nat
  l : Nat
structure Fol where
  a : O
  r : O
  l : O
def FolN.val (d : FolN) : Value := .agg #[.float .f32 d.a, .float .f32 d.r, .float .f32 d.l]
structure FvFol (d : FolN) (D : Fol) : Prop where
  a : Hid (Fv .f32 d.a D.a)
  r : Hid (Fv .f32 d.r D.r)
  l : Hid (Fv .f32 d.l D.l)
def PLFB (n0 : Nat) (f0 : Nat → Option Nat) (S : Fol) (b : Bool) (w : World) (e : Ending) (w' : World) : Prop :=
  ∃ (p : Ls) (c : Nat) (s : FolN), e = .returned (.tuple #[.slice p.A p.n c, s.val, .bool b]) ∧ p.n = n0 ∧ Gs 22 w' w.heap.size p.A p.n p.xs ∧ Are p f0 ∧ FvFol s S ∧ w.Since w.heap.size w'
def levO (D : Fol) (X : Nat → O) : Nat → O
  | 0 => D.l
  | k + 1 => folO D.a D.r (levO D X k) (X k)
theorem specFollow_hc (g a r l x : Nat) (A R L X : O) (w : World) (h : FolAt w g a r l) (ha : Hid (Fv .f32 a A)) (hr : Hid (Fv .f32 r R)) (hl : Hid (Fv .f32 l L)) (hx : Hid (Fv .f32 x X)) (m : Nat) :
    Calls Try.prog 42 #[.pointer (some ⟨g, 0, none⟩), .float .f32 l, .float .f32 x] (w.drewN m) fun e w' => ∃ q n, e = .returned (.float .f32 q) ∧ Fv .f32 q (folO A R L X) ∧ w' = w.drewN n :=
  (specFollow_any g a r l x A R L X _ (h.drewN m) ha hr hl hx).mono fun e w' ⟨q, n, h1, h2, h3⟩ => ⟨q, m + n, h1, h2.out, h3.trans (by simp [World.drewN, Nat.add_assoc])⟩
theorem folO_ex {A R L X : O} {a r l x : Nat} (ha : Hid (Fv .f32 a A)) (hr : Hid (Fv .f32 r R)) (hl : Hid (Fv .f32 l L)) (hx : Hid (Fv .f32 x X)) : ∃ q, Fv .f32 q (folO A R L X) := by
  unfold folO
  obtain ⟨d, hd⟩ := Lo.fv_ex (op := .sub) rfl .f32 _ _ _ _ (sizeN_fv hx).out hl.out
  cases gtO (sizeO X) L
  · obtain ⟨p, hp⟩ := Lo.fv_ex (op := .mul) rfl .f32 _ _ _ _ hr.out hd
    obtain ⟨s, hs⟩ := Lo.fv_ex (op := .add) rfl .f32 _ _ _ _ hl.out hp
    exact ⟨_, flushN_fv hs⟩
  · obtain ⟨p, hp⟩ := Lo.fv_ex (op := .mul) rfl .f32 _ _ _ _ ha.out hd
    obtain ⟨s, hs⟩ := Lo.fv_ex (op := .add) rfl .f32 _ _ _ _ hl.out hp
    exact ⟨_, flushN_fv hs⟩
set_option maxHeartbeats 4000000 in
set_option maxRecDepth 100000 in
theorem specFollowL_ok (d : FolN) (D : Fol) (A : Option Addr) (n c : Nat) (xs : List Nat) (w : World) (hD : FvFol d D) (hA : Fs w w.heap.size A n xs) (hn : n ≤ 256) :
    Calls Try.prog 20 #[d.val, .slice A n c] w (PLFB n (fun k => levO D (fun k => ab .f32 (wd xs k)) (k + 1)) ⟨D.a, D.r, levO D (fun k => ab .f32 (wd xs k)) n⟩ true w) := by
  obtain ⟨a, r, l⟩ := d
  obtain ⟨ha, hr, hl⟩ := hD
  simp only at ha hr hl
  have hfew : decide ((n : Int) ≤ 256) = true := decide_eq_true (by omega)
  have HA := Lib.hid hA
  clear hA
  simp only [FolN.val]
  go_enter Try.func20, Try.ntmps20
  go_wp2_with (first | (go_at_call 33; refine (specFew_any _ _ _ _ _ hfew).mono ?_; rintro e w' ⟨rfl, rfl⟩))
  go_loopw [7, 8] (fun v i wr => ∃ k q : Nat, k ≤ n ∧ i = .int .i64 k ∧ Rw (w.heap.size + 1 + 1) wr v k (fun k => levO D (fun k => ab .f32 (wd xs k)) (k + 1)) ∧ FolB wr w.heap.size a r q ∧ FolB wr (w.heap.size + 1) 0 0 0 ∧ Hid (Fv .f32 q (levO D (fun k => ab .f32 (wd xs k)) k)) ∧ w.Since w.heap.size wr ∧ w.heap.size + 1 + 1 ≤ wr.heap.size) (fun _ i _ => n - (intOf i).toNat)
  case atStart =>
    obtain ⟨W1, hW1⟩ : ∃ W, W = w.alloc (.cells #[.float .f32 a, .float .f32 r, .float .f32 l] 42) := ⟨_, rfl⟩
    obtain ⟨W2, hW2⟩ : ∃ W, W = W1.alloc (.cells #[.float .f32 0, .float .f32 0, .float .f32 0] 42) := ⟨_, rfl⟩
    have z1 : W1.heap.size = w.heap.size + 1 := by rw [hW1]; simp
    have z2 : W2.heap.size = w.heap.size + 1 + 1 := by rw [hW2]; simp [z1]
    have f1 : FolB W1 w.heap.size a r l := by rw [hW1]; exact Go.Deep.blk_alloc_new _ _
    have f2 : FolB W2 (w.heap.size + 1) 0 0 0 := by rw [hW2, ← z1]; exact Go.Deep.blk_alloc_new _ _
    have f3 : FolB W2 w.heap.size a r l := f1.of (by rw [hW2]; exact blk_keep _ (by omega))
    have h9 := Rw.start W2 (w.heap.size + 1 + 1) (by omega) (fun k => levO D (fun k => ab .f32 (wd xs k)) (k + 1))
    rw [z2] at h9
    have s2 : w.Since w.heap.size W2 := by rw [hW2, hW1]; exact ((World.Since.refl _ _).alloc (Nat.le_refl _) _).alloc (by simp) _
    rw [← hW1, ← hW2]
    refine ⟨0, l, Nat.zero_le _, rfl, h9, f3.of (blk_keep _ (by omega)), f2.of (blk_keep _ (by omega)), hl, s2.alloc (by omega) _, by simp; omega⟩
  case round =>
    obtain ⟨k, q, hk, rfl, hr1, hf1, hf2, hq, hs, hz⟩ := hrel
    have HR := Lib.hid hr1; have HS := Lib.hid hs; have HF := Lib.hid hf1; have HF2 := Lib.hid hf2
    clear hr1 hs hf1 hf2
    by_cases hlt : k < n
    · obtain ⟨g, off, rfl, hg, hc⟩ := HA.out.2.2 (by omega)
      have hcell : wr.cell? ⟨g, off + k, none⟩ = some (.float .f32 (wd xs k)) := (HS.out.cell (a := ⟨g, off + k, none⟩) hg).trans (hc k hlt)
      have hx : Hid (Fv .f32 (wd xs k) (ab .f32 (wd xs k))) := Lib.hid ⟨HA.out.2.1.at_ k, rfl⟩
      have c3 := HF.out.at_.l
      have e3 := HF.out.free (o := 2)
      have hset := fun q' => (HF.out.set (q := q')).at_.l
      clear hc
      go_wp2_with fail
      refine Lo.wp_loose_tail [26] 8 (by kernel_rfl) (by kernel_rfl) ?_
      simp only [List.take_succ_cons, List.take_zero, List.drop_succ_cons, List.drop_zero]
      repeat (first
        | (refine Lo.wpL_callF rfl 42 [.tmp 2, .tmp 21, .tmp 25] [.pointer (some ⟨w.heap.size, 0, none⟩), .float .f32 q, .float .f32 (wd xs k)] _ rfl (by decide) (callsEnter 42 Try.f42 _ (by kernel_rfl) (by kernel_rfl) rfl) .f32 (folO D.a D.r (levO D (fun k => ab .f32 (wd xs k)) k) (ab .f32 (wd xs k))) (Lo.keeps [2, 21, 25] _ rfl (by decide)) (specFollow_hc w.heap.size a r q (wd xs k) D.a D.r _ _ wr HF.out.at_ ha hr hq hx) (folO_ex ha hr hq hx) ?_; intro rr hrr; simp only [Act.put, List.setIfInBounds_toArray, List.set_cons_succ, List.set_cons_zero])
        | (refine Lo.wpL_move rfl _ (.inl rfl) (by decide) ?_; simp only [Act.put, List.setIfInBounds_toArray, List.set_cons_succ, List.set_cons_zero])
        | (refine Lo.wpL_move rfl _ (.inr rfl) (by decide) ?_; simp only [Act.put, List.setIfInBounds_toArray, List.set_cons_succ, List.set_cons_zero])
        | (refine Lo.wpL_fop rfl _ _ _ _ rfl rfl (by decide) _ _ _ _ _ rfl rfl (by assumption) (by assumption) ?_; intro rr hrr; simp only [Act.put, List.setIfInBounds_toArray, List.set_cons_succ, List.set_cons_zero])
        | (refine Lo.wpL_wide rfl _ _ _ rfl (by decide) _ _ rfl (by kernel_rfl) (by kernel_rfl) (by assumption) ?_; intro rr hrr; simp only [Act.put, List.setIfInBounds_toArray, List.set_cons_succ, List.set_cons_zero])
        | (refine Lo.wpL_quiet rfl (by decide) (fun K hK => ?_); go_big_quiet_op; (refine hK _ ?_; clear hK K)))
      refine Lo.wpL_nil ?_
      refine Lo.after_fl rfl (by assumption) ?_; intro q26 h26; simp only [Act.put, List.setIfInBounds_toArray, List.set_cons_succ, List.set_cons_zero]
      refine Lo.after_nil ?_; intro nq
      go_wp2_with (at_builtin; refine wpList_app1 rfl (.tmp 28) (.tmp 31) rfl (w.heap.size + 1 + 1) _ k _ rfl _ _ rfl (by simp [go_sem]) (by omega) (by simp; omega) h26 (((HR.out.on ((On.refl _ _).set 2 (.float .f32 q26)) (by omega)).alloc _).drewN _) ?_; intro v' w3 hR3 hS3)
      have F1 : FolB w3 w.heap.size a r q26 := (HF.out.set (q := q26)).of ((hS3.out.block _ (by omega)).trans (blk_keep _ (by rw [Go.Deep.nblk_setCell]; omega)))
      have F2 : FolB w3 (w.heap.size + 1) 0 0 0 := HF2.out.of ((hS3.out.block _ (by omega)).trans ((blk_keep _ (by rw [Go.Deep.nblk_setCell]; omega)).trans (Go.Deep.blk_setCell_other _ _ _ _ (show w.heap.size + 1 ≠ w.heap.size by omega))))
      have F3 : w.Since w.heap.size w3 := (since_drewN ((HS.out.setCell (Nat.le_refl _) _).alloc (by rw [Go.Deep.nblk_setCell]; omega) _) _).trans (since_mono hS3.out (by omega))
      have F4 : w.heap.size + 1 + 1 ≤ w3.heap.size := Nat.le_trans (by simp; omega) hS3.out.size
      have F5 := Lib.hid F1; have F6 := Lib.hid F2; have F7 := Lib.hid F3; clear F1 F2 F3
      go_roundw
      case rel => exact ⟨k + 1, q26, by omega, by go_num, hR3.out, F5.out, F6.out, h26, F7.out, F4⟩
      case measure => simp [intOf]; omega
    · obtain rfl : k = n := by omega
      obtain ⟨p, cp, rfl, rfl, hg, ha2⟩ := HR.out.done
      have HG := Lib.hid hg; have HAA := Lib.hid ha2; clear hg ha2
      have c1 := HF.out.at_.a
      have c2 := HF.out.at_.r
      have c3 := HF.out.at_.l
      have d1 := HF2.out.at_.a
      have d2 := HF2.out.at_.r
      have d3 := HF2.out.at_.l
      have e0 := fun o => HF2.out.free (o := o)
      go_wp2_with fail
      go_region
      all_goals
        have G9 : FolB _ (w.heap.size + 1) a r q := HF2.out.set3 (a := a) (r := r) (l := q)
        have S9 := ((HS.out.setCell (a := ⟨w.heap.size + 1, 0, none⟩) (by simp) (.float .f32 a)).setCell (a := ⟨w.heap.size + 1, 1, none⟩) (by simp) (.float .f32 r)).setCell (a := ⟨w.heap.size + 1, 2, none⟩) (by simp) (.float .f32 q)
        have O9 : Gs 22 _ (w.heap.size + 1 + 1) p.A p.n p.xs := HG.out.onLow (((On.refl (w.heap.size + 1) wr).set 0 (.float .f32 a)).set 1 (.float .f32 r) |>.set 2 (.float .f32 q)) (by omega)
        generalize World.setCell _ _ _ = W9 at *
        have g1 := G9.at_.a
        have g2 := G9.at_.r
        have g3 := G9.at_.l
        have S10 := Lib.hid S9; have O10 := Lib.hid O9; clear S9 O9 d1 d2 d3 c1 c2 c3 e0 G9
        go_wp2
        exact bodyPost_ret (v := .tuple #[.slice p.A p.n cp, .agg #[.float .f32 a, .float .f32 r, .float .f32 q], .bool true]) (by simp [results, Try.results20, go_sem, g1, g2, g3]) rfl
          ⟨p, cp, ⟨a, r, q⟩, rfl, rfl, O10.out.less (by omega), HAA.out, ⟨ha, hr, hq⟩, (by exact since_drewN S10.out 1)⟩
end Go.Proofs.Yteggicdhgcecpaa
