/- Filters: a filter over samples, the model's. -/
import Derived.Test.YtebocaicebolaaaGe
import Derived.Test.YtebocaicebolaaaEc
set_option linter.unusedVariables false
set_option linter.unusedSimpArgs false
namespace Go.Proofs.Ytebocaicebolaaa
open Fl Go.RowKit
/-- the memory behind so many samples, and what is made of each -/
def filM (form : Nat) (fu : Bool) (F : Fil) (M : Mem) (X : Nat → O) : Nat → Mem
  | 0 => M
  | k + 1 => stepM form fu F (filM form fu F M X k) (X k)
def filY (form : Nat) (fu : Bool) (F : Fil) (M : Mem) (X : Nat → O) (k : Nat) : O := stepY form fu F (filM form fu F M X k) (X k)
theorem filM_like {form : Nat} {fu : Bool} {F : Fil} {M : Mem} {X Y : Nat → O} {n : Nat} (h : ∀ k, k < n → X k = Y k) : ∀ k, k ≤ n → filM form fu F M X k = filM form fu F M Y k
  | 0, _ => rfl
  | k + 1, hk => by
    unfold filM
    rw [filM_like h k (by omega), h k (by omega)]
theorem filY_like {form : Nat} {fu : Bool} {F : Fil} {M : Mem} {X Y : Nat → O} {n : Nat} (h : ∀ k, k < n → X k = Y k) (k : Nat) (hk : k < n) : filY form fu F M X k = filY form fu F M Y k := by
  unfold filY
  rw [filM_like h k (by omega), h k hk]
theorem filM_cut (form : Nat) (fu : Bool) (F : Fil) (M : Mem) (X : Nat → O) (a : Nat) : ∀ k, filM form fu F (filM form fu F M X a) (fun j => X (a + j)) k = filM form fu F M X (a + k)
  | 0 => rfl
  | k + 1 => by
    show stepM form fu F (filM form fu F (filM form fu F M X a) (fun j => X (a + j)) k) (X (a + k)) = stepM form fu F (filM form fu F M X (a + k)) (X (a + k))
    rw [filM_cut form fu F M X a k]
theorem filY_cut (form : Nat) (fu : Bool) (F : Fil) (M : Mem) (X : Nat → O) (a k : Nat) : filY form fu F (filM form fu F M X a) (fun j => X (a + j)) k = filY form fu F M X (a + k) := by
  unfold filY
  rw [filM_cut]
/-- a list and a memory -/
def PLM (n0 : Nat) (f0 : Nat → O) (M : Mem) (w : World) (e : Ending) (w' : World) : Prop :=
  ∃ (p : Ls) (c : Nat) (m : MemN), e = .returned (.tuple #[.slice p.A p.n c, m.val]) ∧ p.n = n0 ∧ Gs 22 w' w.heap.size p.A p.n p.xs ∧ Are p f0 ∧ FvM m M ∧ w.Since w.heap.size w'
theorem FilAt.since {w w' : World} {g : Nat} {f : FilN} (h : FilAt w g f) (s : w.Since (g + 1) w') : FilAt w' g f :=
  ⟨Nat.lt_of_lt_of_le h.lt s.size, (s.cell (a := ⟨g, 0, none⟩) (by show g < g + 1; omega)).trans h.b0, (s.cell (a := ⟨g, 1, none⟩) (by show g < g + 1; omega)).trans h.b1, (s.cell (a := ⟨g, 2, none⟩) (by show g < g + 1; omega)).trans h.b2, (s.cell (a := ⟨g, 3, none⟩) (by show g < g + 1; omega)).trans h.a1, (s.cell (a := ⟨g, 4, none⟩) (by show g < g + 1; omega)).trans h.a2⟩
theorem Rw.own_lt {lo : Nat} {w : World} {v : Value} {k : Nat} {F : Nat → O} (h : Rw lo w v k F) : ∀ b, v.ownBlock = some b → b < w.heap.size := by
  intro b hb
  obtain ⟨os, h1, _, _⟩ := h
  rcases h1.2 with ⟨rfl, _⟩ | ⟨g, cap, cur, rfl, hg, hb2, _⟩
  · simp [Value.ownBlock] at hb
  · simp [Value.ownBlock] at hb; subst hb; exact (Array.getElem?_eq_some_iff.1 hb2).1
theorem wpList_app1k {ops : Array Oper} {rest : List Oper} {o : Oper} {a : Act} {Q : Exit → Act → World → Prop} {w : World} (hgd : o.guard = none) (s x : Operand)
    (ho : o.op = .call { callee := .builtin .append, args := #[s, x], argTypes := #[27, 27] }) (lo : Nat) (v : Value) (k : Nat) (F : Nat → O) (hs : a.eval s = v) (b r : Nat)
    (hx : a.eval x = .slice (some ⟨b, 0, none⟩) 1 1) (hc : w.cell? ⟨b, 0, none⟩ = some (.float .f32 r)) (hk : k < 1048576) (hlo : lo ≤ w.heap.size) (hr : Hid (Fv .f32 r (F k))) (hR : Rw lo w v k F) (B : Nat) (hB : ∀ b, v.ownBlock = some b → b < B)
    (h : ∀ v' w', Hid (Rw lo w' v' (k + 1) F) → Hid (w.Since lo w') → Hid (∀ i, B ≤ i → i < w.heap.size → w'.heap[i]? = w.heap[i]?) → wpList Try.prog ops Q rest (a.put o.dst v') w') : wpList Try.prog ops Q (o :: rest) a w := by
  obtain ⟨os, h1, h2, h3⟩ := hR
  obtain ⟨i0, hi, hz0, hz1, hz2⟩ := info_parts Try.infoF
  refine wpList_append_own (P := Try.prog) w hgd s x 27 ho lo 22 i0 (.float .f32 0) 1 4 Try.underlying27 hi hz0 hz1 hz2 rfl (by omega) v k (fvl os) hs h1 ⟨b, 0, none⟩ 1 1 [.float .f32 r] hx rfl ?_ ?_ ?_ ?_ hlo ?_
  · intro j u hj
    rcases j with _ | j
    · simp at hj; subst hj; simpa [Addr.add] using hc
    · simp at hj
  · intro u hu; simp at hu; subst hu; rfl
  · unfold maxLen; omega
  · omega
  · intro v' w' hown hg _
    refine h v' w' (Lib.hid ⟨os ++ [r], ?_, h2.snoc hr.out.1, fun j hj => ?_⟩) (Lib.hid ⟨hg.os, hg.tape, hg.output, hg.size, fun i hi => ?_⟩) (Lib.hid fun i h5 h6 => hg.block i h6 fun e => by have := hB i e.symm; omega)
    · rw [← fvl_snoc]; exact hown
    · have hyl : os.length = k := by simpa [fvl] using h1.1
      rw [wd_snoc hyl]
      by_cases e : j < k
      · rw [if_pos e]; exact h3 j e
      · obtain rfl : j = k := by omega
        rw [if_neg e, if_pos rfl]; exact hr.out.2
    · refine hg.block i (by omega) fun e => ?_
      have := own_lo h1 i e.symm
      omega
/-- a memory's block -/
def MemB (T : TypeId) (w : World) (b : Nat) (m : MemN) : Prop := w.heap[b]? = some (.cells #[.float .f32 m.a, .float .f32 m.b, .float .f32 m.c, .float .f32 m.d] T (0, 0))
section
variable {T : TypeId} {w w' : World} {b : Nat} {m : MemN}
theorem MemB.lt (h : MemB T w b m) : b < w.heap.size := (Array.getElem?_eq_some_iff.1 h).1
theorem MemB.c0 (h : MemB T w b m) : w.cell? ⟨b, 0, none⟩ = some (.float .f32 m.a) := by unfold MemB at h; simp [World.cell?, h]
theorem MemB.c1 (h : MemB T w b m) : w.cell? ⟨b, 1, none⟩ = some (.float .f32 m.b) := by unfold MemB at h; simp [World.cell?, h]
theorem MemB.c2 (h : MemB T w b m) : w.cell? ⟨b, 2, none⟩ = some (.float .f32 m.c) := by unfold MemB at h; simp [World.cell?, h]
theorem MemB.c3 (h : MemB T w b m) : w.cell? ⟨b, 3, none⟩ = some (.float .f32 m.d) := by unfold MemB at h; simp [World.cell?, h]
theorem MemB.free (h : MemB T w b m) (q : Nat) : w.frozen? ⟨b, q, none⟩ = false := by unfold MemB at h; simp [World.frozen?, h]
theorem MemB.of (h : MemB T w b m) (e : w'.heap[b]? = w.heap[b]?) : MemB T w' b m := e.trans h
theorem MemB.since {B : Nat} (h : MemB T w b m) (s : w.Since B w') (hb : b < B) : MemB T w' b m := h.of (s.block b hb)
theorem MemB.set (h : MemB T w b m) (x y z u : Nat) : MemB T ((((w.setCell ⟨b, 0, none⟩ (.float .f32 x)).setCell ⟨b, 1, none⟩ (.float .f32 y)).setCell ⟨b, 2, none⟩ (.float .f32 z)).setCell ⟨b, 3, none⟩ (.float .f32 u)) b ⟨x, y, z, u⟩ := by
  unfold MemB at h ⊢
  simp [World.setCell, Array.getElem?_modify, h]
theorem MemB.new (T : TypeId) (w : World) (x y z u : Nat) : MemB T (w.alloc (.cells #[.float .f32 x, .float .f32 y, .float .f32 z, .float .f32 u] T)) w.heap.size ⟨x, y, z, u⟩ := Go.Deep.blk_alloc_new _ _
end
theorem gs_low {T : TypeId} {w w' : World} {lo n g : Nat} {A : Option Addr} {xs : List Nat} (h : Gs T w lo A n xs) (o : On g w w') (hd : g < lo) : Gs T w' lo A n xs :=
  ⟨h.1, h.2.1, fun hn => by
    obtain ⟨b, cs, e, hb, hh, hc⟩ := h.2.2 hn
    exact ⟨b, cs, e, hb, (o.2 b (Array.getElem?_eq_some_iff.1 hh).1 (by omega)).trans hh, hc⟩⟩
set_option maxHeartbeats 8000000 in
set_option maxRecDepth 100000 in
theorem specRun_any (form : Nat) (hform : form ≤ 2) (fu : Bool) (g : Nat) (f : FilN) (m : MemN) (F : Fil) (M : Mem) (A : Option Addr) (n c : Nat) (xs : List Nat) (w : World) (hg : FilAt w g f) (hF : FvF f F) (hM : FvM m M) (hA : Fs w w.heap.size A n xs) (hn : n ≤ 256) :
    Calls Try.prog 60 #[.pointer (some ⟨g, 0, none⟩), .int .i64 (form : Int), .bool fu, m.val, .slice A n c] w (PLM n (filY form fu F M (fun k => ab .f32 (wd xs k))) (filM form fu F M (fun k => ab .f32 (wd xs k)) n) w) := by
  have hst : ∀ (m : MemN) (M : Mem) (x : Nat) (X : O) (v : World), FilAt v g f → FvM m M → Hid (Fv .f32 x X) → Calls Try.prog 72 #[.pointer (some ⟨g, 0, none⟩), .int .i64 (form : Int), .bool fu, .agg #[.float .f32 m.a, .float .f32 m.b, .float .f32 m.c, .float .f32 m.d], .float .f32 x] v (StepPost v (stepY form fu F M X) (stepM form fu F M X)) := by
    intro m M x X v h1 h2 h3
    match form, hform with
    | 0, _ => exact specDir_any fu g f m x F M X v h1 hF h2 h3
    | 1, _ => exact specTur_any fu g f m x F M X v h1 hF h2 h3
    | 2, _ => exact specCan_any fu g f m x F M X v h1 hF h2 h3
  have HT := Lib.hid hst; clear hst
  have HA := Lib.hid hA; clear hA
  have HG := Lib.hid hg
  have hglt := hg.lt
  clear hg
  obtain ⟨ma, mb, mc, md⟩ := m
  unfold MemN.val at *
  go_enter Try.func60, Try.ntmps60
  go_wp2_with fail
  generalize hW1 : World.alloc w _ = W1
  generalize hW2 : World.alloc W1 _ = W2
  generalize hW3 : World.alloc W2 _ = W3
  have z1 : W1.heap.size = w.heap.size + 1 := by rw [← hW1]; simp
  have z2 : W2.heap.size = w.heap.size + 1 + 1 := by rw [← hW2]; simp [z1]
  have b1 : MemB 28 W1 w.heap.size ⟨ma, mb, mc, md⟩ := by rw [← hW1]; exact MemB.new _ _ _ _ _ _
  have b2 : MemB 28 W2 (w.heap.size + 1) ⟨0, 0, 0, 0⟩ := by rw [← hW2, ← z1]; exact MemB.new _ _ _ _ _ _
  have s3 : W2.Since W2.heap.size W3 := by rw [← hW3]; exact (World.Since.refl _ _).alloc (Nat.le_refl _) _
  have s2 : W1.Since W1.heap.size W2 := by rw [← hW2]; exact (World.Since.refl _ _).alloc (Nat.le_refl _) _
  have s1 : w.Since w.heap.size W1 := by rw [← hW1]; exact (World.Since.refl _ _).alloc (Nat.le_refl _) _
  have B1 := Lib.hid ((b1.since s2 (by omega)).since s3 (by omega))
  have B2 := Lib.hid (b2.since s3 (by omega))
  have S3 := Lib.hid ((s1.trans (since_mono s2 (by omega))).trans (since_mono s3 (by omega)))
  have R3 : Hid (Rw (w.heap.size + 1 + 1) W3 (.slice (some ⟨w.heap.size + 1 + 1, 0, none⟩) 0 0) 0 (filY form fu F M (fun k => ab .f32 (wd xs k)))) := Lib.hid (by rw [← hW3, ← z2]; exact Rw.start W2 _ (by omega) _)
  have z3 : w.heap.size + 1 + 1 ≤ W3.heap.size := by have := s3.size; omega
  clear hW1 hW2 hW3 s1 s2 s3 b1 b2
  go_loopw [12, 13] (fun v i wr => ∃ (k : Nat) (q : MemN), k ≤ n ∧ i = .int .i64 (k : Int) ∧ Rw (w.heap.size + 1 + 1) wr v k (filY form fu F M (fun k => ab .f32 (wd xs k))) ∧ MemB 28 wr w.heap.size q ∧ MemB 28 wr (w.heap.size + 1) ⟨0, 0, 0, 0⟩ ∧ FvM q (filM form fu F M (fun k => ab .f32 (wd xs k)) k) ∧ w.Since w.heap.size wr ∧ w.heap.size + 1 + 1 ≤ wr.heap.size) (fun _ i _ => n - (intOf i).toNat)
  case atStart => exact ⟨0, _, Nat.zero_le _, rfl, R3.out, B1.out, B2.out, hM, S3.out, z3⟩
  case round =>
    obtain ⟨k, q, hk, rfl, hr, hb1, hb2, hq, hs, hz⟩ := hrel
    have HR := Lib.hid hr; have HB1 := Lib.hid hb1; have HB2 := Lib.hid hb2; have HQ := Lib.hid hq; have HS := Lib.hid hs
    clear hr hb1 hb2 hq hs
    by_cases hlt : k < n
    · obtain ⟨gg, off, rfl, hgg, hcc⟩ := HA.out.2.2 (by omega)
      have hcell : wr.cell? ⟨gg, off + k, none⟩ = some (.float .f32 (wd xs k)) := (HS.out.cell (a := ⟨gg, off + k, none⟩) hgg).trans (hcc k hlt)
      have hx : Hid (Fv .f32 (wd xs k) (ab .f32 (wd xs k))) := Lib.hid ⟨HA.out.2.1.at_ k, rfl⟩
      have HGr := Lib.hid (HG.out.since (since_mono HS.out (by omega)))
      have m0 := HB1.out.c0; have m1 := HB1.out.c1; have m2 := HB1.out.c2; have m3 := HB1.out.c3
      clear hcc
      go_wp2_with fail
      have hgw : g + 1 ≤ wr.heap.size := by omega
      have hgg9 : gg < wr.heap.size := by omega
      have hbb9 : w.heap.size < wr.heap.size := by omega
      go_region_with (go_at_call 72; refine (HT.out q _ (wd xs k) _ _ (HGr.out.since (since_mono (by (repeat (first | (with_reducible refine Fl.sinDrew ?_) | (with_reducible refine World.Since.drew ?_) | (with_reducible refine Fl.sinSet ?_ ?_; rotate_left) | (with_reducible refine Fl.sinAlloc ?_ ?_; rotate_left) | with_reducible exact World.Since.refl _ _ | with_reducible assumption | (with_reducible refine Fl.sinStep (by with_reducible assumption) ?_))); all_goals (first | omega | (simp; done) | (simp; omega) | (simp [go_sem]; done) | (simp [go_sem]; omega))) hgw)) HQ.out hx).mono ?_; rintro e w2 ⟨y, ⟨ra, rb, rc, rd⟩, rfl, hy, hm, hs⟩; (try replace hs := sinUD hs); (try have y20 : wr.heap.size < w2.heap.size := (by have hsz := hs.size; (try simp only [World.drew, World.drewN, Go.Deep.nblk_alloc, Go.Deep.nblk_setCell] at hsz); omega)); obtain ⟨hc2, hf2⟩ := Fl.sinCell hs; have HSY := Lib.hid hs; clear hs; have HMY := Lib.hid hm; clear hm; simp only [MemN.val_mk])
      all_goals
        first
        | (generalize hV : World.alloc w2 _ = V
           have SV : Hid (wr.Since wr.heap.size V) := Lib.hid (by rw [← hV]; exact HSY.out.alloc HSY.out.size _)
           have pl := HSY.out.size
           have PB : Hid (MemB 28 V w2.heap.size ⟨ra, rb, rc, rd⟩) := Lib.hid (by rw [← hV]; exact MemB.new _ _ _ _ _ _)
           skip)
        | (generalize hV : World.setCell _ _ _ = V
           have pl := Nat.le_refl wr.heap.size
           have hsy2 : wr.Since wr.heap.size w2 := ((World.Since.refl _ _).alloc (Nat.le_refl _) _).trans (since_mono HSY.out (by simp))
           have SV : Hid (wr.Since wr.heap.size V) := Lib.hid (by rw [← hV]; exact (((hsy2.setCell (Nat.le_refl _) _).setCell (Nat.le_refl _) _).setCell (Nat.le_refl _) _).setCell (Nat.le_refl _) _)
           have PB : Hid (MemB 28 V wr.heap.size ⟨ra, rb, rc, rd⟩) := Lib.hid (by rw [← hV]; exact MemB.set (m := ⟨0, 0, 0, 0⟩) ((HSY.out.block _ (by simp)).trans (MemB.new _ _ _ _ _ _)) _ _ _ _)
           clear hsy2)
        clear hV
        have HRV := Lib.hid (HR.out.since SV.out)
        have hol := Lib.hid HR.out.own_lt
        have hszV := SV.out.size
        have HBV := Lib.hid (HB1.out.since SV.out hbb9)
        have HCV := Lib.hid (HB2.out.since SV.out (by omega))
        have hplt := PB.out.lt
        go_wp2_with (at_builtin; refine wpList_app1k rfl (.tmp 35) (.tmp 37) rfl (w.heap.size + 1 + 1) _ k _ rfl _ _ rfl (by simp [go_sem]) (by omega) (by simp; omega) hy (HRV.out.alloc _) wr.heap.size hol.out ?_; intro v' w4 hR4 hS4 hK4; have PB4 := Lib.hid (PB.out.of ((hK4.out _ pl (by simp; omega)).trans (((World.Since.refl V.heap.size V).alloc (Nat.le_refl _) _).block _ hplt))); have S4 := Lib.hid (((World.Since.refl _ V).alloc (show w.heap.size + 1 + 1 ≤ V.heap.size by omega) _).trans hS4.out); have HB4 := Lib.hid (HBV.out.since S4.out (by omega)); have HC4 := Lib.hid (HCV.out.since S4.out (by omega)); have p0 := PB4.out.c0; have p1 := PB4.out.c1; have p2 := PB4.out.c2; have p3 := PB4.out.c3; have e0 := HB4.out.c0; have e1 := HB4.out.c1; have e2 := HB4.out.c2; have e3 := HB4.out.c3; have l0 := HB4.out.free 0; have l1 := HB4.out.free 1; have l2 := HB4.out.free 2; have l3 := HB4.out.free 3)
        have OO : Hid (On w.heap.size w4 ((((w4.setCell ⟨w.heap.size, 0, none⟩ (.float .f32 ra)).setCell ⟨w.heap.size, 1, none⟩ (.float .f32 rb)).setCell ⟨w.heap.size, 2, none⟩ (.float .f32 rc)).setCell ⟨w.heap.size, 3, none⟩ (.float .f32 rd))) := Lib.hid (((((On.refl _ _).set _ _).set _ _).set _ _).set _ _)
        have NB := Lib.hid (HB4.out.set ra rb rc rd)
        have hz4 := S4.out.size
        go_roundw
        case rel => exact ⟨k + 1, ⟨ra, rb, rc, rd⟩, by omega, by go_num, hR4.out.on OO.out (by omega), NB.out, HC4.out.of (OO.out.2 _ HC4.out.lt (by omega)), HMY.out, (HS.out.trans (since_mono SV.out (by omega))).trans ((since_mono S4.out (by omega)).trans (since_mono OO.out.1 (Nat.le_refl _))), by have := OO.out.1.size; omega⟩
        case measure => simp [intOf]; omega
    · obtain rfl : k = n := by omega
      obtain ⟨p, cp, rfl, rfl, hg2, ha2⟩ := HR.out.done
      have HG2 := Lib.hid hg2; have HA2 := Lib.hid ha2; clear hg2 ha2
      have m0 := HB1.out.c0; have m1 := HB1.out.c1; have m2 := HB1.out.c2; have m3 := HB1.out.c3
      have n0 := HB2.out.c0; have n1 := HB2.out.c1; have n2 := HB2.out.c2; have n3 := HB2.out.c3
      have f0 := HB2.out.free 0; have f1 := HB2.out.free 1; have f2 := HB2.out.free 2; have f3 := HB2.out.free 3
      go_wp2_with fail
      go_region
      all_goals
        have OO : Hid (On (w.heap.size + 1) wr (((((wr.setCell ⟨w.heap.size + 1, 0, none⟩ (.float .f32 q.a)).setCell ⟨w.heap.size + 1, 1, none⟩ (.float .f32 q.b)).setCell ⟨w.heap.size + 1, 2, none⟩ (.float .f32 q.c)).setCell ⟨w.heap.size + 1, 3, none⟩ (.float .f32 q.d)))) := Lib.hid (((((On.refl _ _).set _ _).set _ _).set _ _).set _ _)
        have NB := Lib.hid (HB2.out.set q.a q.b q.c q.d)
        generalize hV : World.setCell _ _ _ = V at *
        have g0 := NB.out.c0; have g1 := NB.out.c1; have g2 := NB.out.c2; have g3 := NB.out.c3
        have SV : Hid (w.Since w.heap.size V) := Lib.hid (HS.out.trans (since_mono OO.out.1 (by omega)))
        have GV := Lib.hid ((HG2.out.less (show w.heap.size ≤ w.heap.size + 1 + 1 by omega)))
        go_wp2
        exact bodyPost_ret (v := .tuple #[.slice p.A p.n cp, .agg #[.float .f32 q.a, .float .f32 q.b, .float .f32 q.c, .float .f32 q.d]]) (by simp [results, Try.results60, go_sem, g0, g1, g2, g3]) rfl
          ⟨p, cp, q, rfl, rfl, (gs_low HG2.out OO.out (by omega)).less (by omega), HA2.out, HQ.out, by first | exact SV.out | exact since_drewN SV.out _⟩
end Go.Proofs.Ytebocaicebolaaa
