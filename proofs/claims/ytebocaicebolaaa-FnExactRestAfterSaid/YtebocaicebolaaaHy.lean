/- Joined: Gn Gp Gq Gu Gv Gw Ll Lm Gg Hc Hd He Hf Hg Hh Hn Uh Ui Uj -/
import Derived.Test.YtebocaicebolaaaGe
import Derived.Test.YtebocaicebolaaaEc
import Derived.Test.YtebocaicebolaaaRz
import Derived.Test.YtebocaicebolaaaTa
import Derived.Lib.SliceRun
import Derived.Test.YtebocaicebolaaaLk
import Derived.Deep.MidRow
import Derived.Test.YtebocaicebolaaaHb
import Derived.Test.YtebocaicebolaaaIl
import Derived.Test.YtebocaicebolaaaDl
import Derived.BigQuiet
import Derived.Test.YtebocaicebolaaaEg
import Derived.Test.YtebocaicebolaaaSc
import Derived.Test.YtebocaicebolaaaJk
import Derived.Test.YtebocaicebolaaaGs
import Derived.Laws.StructEq
import Derived.ScopeJumps
import Derived.WalkMore
import Derived.Deep.LoopGhost
import Derived.Test.YtebocaicebolaaaFq
/- Filters: a filter over samples, the model's. -/
set_option linter.unusedVariables false
set_option linter.unusedSimpArgs false
namespace Go.Proofs.Ytebocaicebolaaa
open Fl Go.RowKit
/-- the memory behind so many samples, and what is made of each -/
def filM (form : Nat) (fu : Bool) (F : Fil) (M : Mem) (X : Nat → O) : Nat → Mem
  | 0 => M
  | k + 1 => stepM form fu F (filM form fu F M X k) (X k)
def filY (form : Nat) (fu : Bool) (F : Fil) (M : Mem) (X : Nat → O) (k : Nat) : O := stepY form fu F (filM form fu F M X k) (X k)
theorem filM_like {form : Nat} {fu : Bool} {F : Fil} {M : Mem} {X Y : Nat → O} {n : Nat} (h : ∀ k, k < n → X k = Y k) : ∀ k, k ≤ n → filM form fu F M X k = filM form fu F M Y k
  | 0, _ => rfl
  | k + 1, hk => by
    unfold filM
    rw [filM_like h k (by omega), h k (by omega)]
theorem filY_like {form : Nat} {fu : Bool} {F : Fil} {M : Mem} {X Y : Nat → O} {n : Nat} (h : ∀ k, k < n → X k = Y k) (k : Nat) (hk : k < n) : filY form fu F M X k = filY form fu F M Y k := by
  unfold filY
  rw [filM_like h k (by omega), h k hk]
theorem filM_cut (form : Nat) (fu : Bool) (F : Fil) (M : Mem) (X : Nat → O) (a : Nat) : ∀ k, filM form fu F (filM form fu F M X a) (fun j => X (a + j)) k = filM form fu F M X (a + k)
  | 0 => rfl
  | k + 1 => by
    show stepM form fu F (filM form fu F (filM form fu F M X a) (fun j => X (a + j)) k) (X (a + k)) = stepM form fu F (filM form fu F M X (a + k)) (X (a + k))
    rw [filM_cut form fu F M X a k]
theorem filY_cut (form : Nat) (fu : Bool) (F : Fil) (M : Mem) (X : Nat → O) (a k : Nat) : filY form fu F (filM form fu F M X a) (fun j => X (a + j)) k = filY form fu F M X (a + k) := by
  unfold filY
  rw [filM_cut]
/-- a list and a memory -/
def PLM (n0 : Nat) (f0 : Nat → O) (M : Mem) (w : World) (e : Ending) (w' : World) : Prop :=
  ∃ (p : Ls) (c : Nat) (m : MemN), e = .returned (.tuple #[.slice p.A p.n c, m.val]) ∧ p.n = n0 ∧ Gs 22 w' w.heap.size p.A p.n p.xs ∧ Are p f0 ∧ FvM m M ∧ w.Since w.heap.size w'
theorem FilAt.since {w w' : World} {g : Nat} {f : FilN} (h : FilAt w g f) (s : w.Since (g + 1) w') : FilAt w' g f :=
  ⟨Nat.lt_of_lt_of_le h.lt s.size, (s.cell (a := ⟨g, 0, none⟩) (by show g < g + 1; omega)).trans h.b0, (s.cell (a := ⟨g, 1, none⟩) (by show g < g + 1; omega)).trans h.b1, (s.cell (a := ⟨g, 2, none⟩) (by show g < g + 1; omega)).trans h.b2, (s.cell (a := ⟨g, 3, none⟩) (by show g < g + 1; omega)).trans h.a1, (s.cell (a := ⟨g, 4, none⟩) (by show g < g + 1; omega)).trans h.a2⟩
theorem Rw.own_lt {lo : Nat} {w : World} {v : Value} {k : Nat} {F : Nat → O} (h : Rw lo w v k F) : ∀ b, v.ownBlock = some b → b < w.heap.size := by
  intro b hb
  obtain ⟨os, h1, _, _⟩ := h
  rcases h1.2 with ⟨rfl, _⟩ | ⟨g, cap, cur, rfl, hg, hb2, _⟩
  · simp [Value.ownBlock] at hb
  · simp [Value.ownBlock] at hb; subst hb; exact (Array.getElem?_eq_some_iff.1 hb2).1
theorem wpList_app1k {ops : Array Oper} {rest : List Oper} {o : Oper} {a : Act} {Q : Exit → Act → World → Prop} {w : World} (hgd : o.guard = none) (s x : Operand)
    (ho : o.op = .call { callee := .builtin .append, args := #[s, x], argTypes := #[27, 27] }) (lo : Nat) (v : Value) (k : Nat) (F : Nat → O) (hs : a.eval s = v) (b r : Nat)
    (hx : a.eval x = .slice (some ⟨b, 0, none⟩) 1 1) (hc : w.cell? ⟨b, 0, none⟩ = some (.float .f32 r)) (hk : k < 1048576) (hlo : lo ≤ w.heap.size) (hr : Hid (Fv .f32 r (F k))) (hR : Rw lo w v k F) (B : Nat) (hB : ∀ b, v.ownBlock = some b → b < B)
    (h : ∀ v' w', Hid (Rw lo w' v' (k + 1) F) → Hid (w.Since lo w') → Hid (∀ i, B ≤ i → i < w.heap.size → w'.heap[i]? = w.heap[i]?) → wpList Try.prog ops Q rest (a.put o.dst v') w') : wpList Try.prog ops Q (o :: rest) a w := by
  obtain ⟨os, h1, h2, h3⟩ := hR
  obtain ⟨i0, hi, hz0, hz1, hz2⟩ := info_parts Try.infoF
  refine wpList_append_own (P := Try.prog) w hgd s x 27 ho lo 22 i0 (.float .f32 0) 1 4 Try.underlying27 hi hz0 hz1 hz2 rfl (by omega) v k (fvl os) hs h1 ⟨b, 0, none⟩ 1 1 [.float .f32 r] hx rfl ?_ ?_ ?_ ?_ hlo ?_
  · intro j u hj
    rcases j with _ | j
    · simp at hj; subst hj; simpa [Addr.add] using hc
    · simp at hj
  · intro u hu; simp at hu; subst hu; rfl
  · unfold maxLen; omega
  · omega
  · intro v' w' hown hg _
    refine h v' w' (Lib.hid ⟨os ++ [r], ?_, h2.snoc hr.out.1, fun j hj => ?_⟩) (Lib.hid ⟨hg.os, hg.tape, hg.output, hg.size, fun i hi => ?_⟩) (Lib.hid fun i h5 h6 => hg.block i h6 fun e => by have := hB i e.symm; omega)
    · rw [← fvl_snoc]; exact hown
    · have hyl : os.length = k := by simpa [fvl] using h1.1
      rw [wd_snoc hyl]
      by_cases e : j < k
      · rw [if_pos e]; exact h3 j e
      · obtain rfl : j = k := by omega
        rw [if_neg e, if_pos rfl]; exact hr.out.2
    · refine hg.block i (by omega) fun e => ?_
      have := own_lo h1 i e.symm
      omega
/-- a memory's block -/
def MemB (T : TypeId) (w : World) (b : Nat) (m : MemN) : Prop := w.heap[b]? = some (.cells #[.float .f32 m.a, .float .f32 m.b, .float .f32 m.c, .float .f32 m.d] T (0, 0))
section
variable {T : TypeId} {w w' : World} {b : Nat} {m : MemN}
theorem MemB.lt (h : MemB T w b m) : b < w.heap.size := (Array.getElem?_eq_some_iff.1 h).1
theorem MemB.c0 (h : MemB T w b m) : w.cell? ⟨b, 0, none⟩ = some (.float .f32 m.a) := by unfold MemB at h; simp [World.cell?, h]
theorem MemB.c1 (h : MemB T w b m) : w.cell? ⟨b, 1, none⟩ = some (.float .f32 m.b) := by unfold MemB at h; simp [World.cell?, h]
theorem MemB.c2 (h : MemB T w b m) : w.cell? ⟨b, 2, none⟩ = some (.float .f32 m.c) := by unfold MemB at h; simp [World.cell?, h]
theorem MemB.c3 (h : MemB T w b m) : w.cell? ⟨b, 3, none⟩ = some (.float .f32 m.d) := by unfold MemB at h; simp [World.cell?, h]
theorem MemB.free (h : MemB T w b m) (q : Nat) : w.frozen? ⟨b, q, none⟩ = false := by unfold MemB at h; simp [World.frozen?, h]
theorem MemB.of (h : MemB T w b m) (e : w'.heap[b]? = w.heap[b]?) : MemB T w' b m := e.trans h
theorem MemB.since {B : Nat} (h : MemB T w b m) (s : w.Since B w') (hb : b < B) : MemB T w' b m := h.of (s.block b hb)
theorem MemB.set (h : MemB T w b m) (x y z u : Nat) : MemB T ((((w.setCell ⟨b, 0, none⟩ (.float .f32 x)).setCell ⟨b, 1, none⟩ (.float .f32 y)).setCell ⟨b, 2, none⟩ (.float .f32 z)).setCell ⟨b, 3, none⟩ (.float .f32 u)) b ⟨x, y, z, u⟩ := by
  unfold MemB at h ⊢
  simp [World.setCell, Array.getElem?_modify, h]
theorem MemB.new (T : TypeId) (w : World) (x y z u : Nat) : MemB T (w.alloc (.cells #[.float .f32 x, .float .f32 y, .float .f32 z, .float .f32 u] T)) w.heap.size ⟨x, y, z, u⟩ := Go.Deep.blk_alloc_new _ _
end
theorem gs_low {T : TypeId} {w w' : World} {lo n g : Nat} {A : Option Addr} {xs : List Nat} (h : Gs T w lo A n xs) (o : On g w w') (hd : g < lo) : Gs T w' lo A n xs :=
  ⟨h.1, h.2.1, fun hn => by
    obtain ⟨b, cs, e, hb, hh, hc⟩ := h.2.2 hn
    exact ⟨b, cs, e, hb, (o.2 b (Array.getElem?_eq_some_iff.1 hh).1 (by omega)).trans hh, hc⟩⟩
set_option maxHeartbeats 8000000 in
set_option maxRecDepth 100000 in
theorem specRun_any (form : Nat) (hform : form ≤ 2) (fu : Bool) (g : Nat) (f : FilN) (m : MemN) (F : Fil) (M : Mem) (A : Option Addr) (n c : Nat) (xs : List Nat) (w : World) (hg : FilAt w g f) (hF : FvF f F) (hM : FvM m M) (hA : Fs w w.heap.size A n xs) (hn : n ≤ 256) :
    Calls Try.prog 60 #[.pointer (some ⟨g, 0, none⟩), .int .i64 (form : Int), .bool fu, m.val, .slice A n c] w (PLM n (filY form fu F M (fun k => ab .f32 (wd xs k))) (filM form fu F M (fun k => ab .f32 (wd xs k)) n) w) := by
  have hst : ∀ (m : MemN) (M : Mem) (x : Nat) (X : O) (v : World), FilAt v g f → FvM m M → Hid (Fv .f32 x X) → Calls Try.prog 72 #[.pointer (some ⟨g, 0, none⟩), .int .i64 (form : Int), .bool fu, .agg #[.float .f32 m.a, .float .f32 m.b, .float .f32 m.c, .float .f32 m.d], .float .f32 x] v (StepPost v (stepY form fu F M X) (stepM form fu F M X)) := by
    intro m M x X v h1 h2 h3
    match form, hform with
    | 0, _ => exact specDir_any fu g f m x F M X v h1 hF h2 h3
    | 1, _ => exact specTur_any fu g f m x F M X v h1 hF h2 h3
    | 2, _ => exact specCan_any fu g f m x F M X v h1 hF h2 h3
  have HT := Lib.hid hst; clear hst
  have HA := Lib.hid hA; clear hA
  have HG := Lib.hid hg
  have hglt := hg.lt
  clear hg
  obtain ⟨ma, mb, mc, md⟩ := m
  unfold MemN.val at *
  go_enter Try.func60, Try.ntmps60
  go_wp2_with fail
  generalize hW1 : World.alloc w _ = W1
  generalize hW2 : World.alloc W1 _ = W2
  generalize hW3 : World.alloc W2 _ = W3
  have z1 : W1.heap.size = w.heap.size + 1 := by rw [← hW1]; simp
  have z2 : W2.heap.size = w.heap.size + 1 + 1 := by rw [← hW2]; simp [z1]
  have b1 : MemB 28 W1 w.heap.size ⟨ma, mb, mc, md⟩ := by rw [← hW1]; exact MemB.new _ _ _ _ _ _
  have b2 : MemB 28 W2 (w.heap.size + 1) ⟨0, 0, 0, 0⟩ := by rw [← hW2, ← z1]; exact MemB.new _ _ _ _ _ _
  have s3 : W2.Since W2.heap.size W3 := by rw [← hW3]; exact (World.Since.refl _ _).alloc (Nat.le_refl _) _
  have s2 : W1.Since W1.heap.size W2 := by rw [← hW2]; exact (World.Since.refl _ _).alloc (Nat.le_refl _) _
  have s1 : w.Since w.heap.size W1 := by rw [← hW1]; exact (World.Since.refl _ _).alloc (Nat.le_refl _) _
  have B1 := Lib.hid ((b1.since s2 (by omega)).since s3 (by omega))
  have B2 := Lib.hid (b2.since s3 (by omega))
  have S3 := Lib.hid ((s1.trans (since_mono s2 (by omega))).trans (since_mono s3 (by omega)))
  have R3 : Hid (Rw (w.heap.size + 1 + 1) W3 (.slice (some ⟨w.heap.size + 1 + 1, 0, none⟩) 0 0) 0 (filY form fu F M (fun k => ab .f32 (wd xs k)))) := Lib.hid (by rw [← hW3, ← z2]; exact Rw.start W2 _ (by omega) _)
  have z3 : w.heap.size + 1 + 1 ≤ W3.heap.size := by have := s3.size; omega
  clear hW1 hW2 hW3 s1 s2 s3 b1 b2
  go_loopw [12, 13] (fun v i wr => ∃ (k : Nat) (q : MemN), k ≤ n ∧ i = .int .i64 (k : Int) ∧ Rw (w.heap.size + 1 + 1) wr v k (filY form fu F M (fun k => ab .f32 (wd xs k))) ∧ MemB 28 wr w.heap.size q ∧ MemB 28 wr (w.heap.size + 1) ⟨0, 0, 0, 0⟩ ∧ FvM q (filM form fu F M (fun k => ab .f32 (wd xs k)) k) ∧ w.Since w.heap.size wr ∧ w.heap.size + 1 + 1 ≤ wr.heap.size) (fun _ i _ => n - (intOf i).toNat)
  case atStart => exact ⟨0, _, Nat.zero_le _, rfl, R3.out, B1.out, B2.out, hM, S3.out, z3⟩
  case round =>
    obtain ⟨k, q, hk, rfl, hr, hb1, hb2, hq, hs, hz⟩ := hrel
    have HR := Lib.hid hr; have HB1 := Lib.hid hb1; have HB2 := Lib.hid hb2; have HQ := Lib.hid hq; have HS := Lib.hid hs
    clear hr hb1 hb2 hq hs
    by_cases hlt : k < n
    · obtain ⟨gg, off, rfl, hgg, hcc⟩ := HA.out.2.2 (by omega)
      have hcell : wr.cell? ⟨gg, off + k, none⟩ = some (.float .f32 (wd xs k)) := (HS.out.cell (a := ⟨gg, off + k, none⟩) hgg).trans (hcc k hlt)
      have hx : Hid (Fv .f32 (wd xs k) (ab .f32 (wd xs k))) := Lib.hid ⟨HA.out.2.1.at_ k, rfl⟩
      have HGr := Lib.hid (HG.out.since (since_mono HS.out (by omega)))
      have m0 := HB1.out.c0; have m1 := HB1.out.c1; have m2 := HB1.out.c2; have m3 := HB1.out.c3
      clear hcc
      go_wp2_with fail
      have hgw : g + 1 ≤ wr.heap.size := by omega
      have hgg9 : gg < wr.heap.size := by omega
      have hbb9 : w.heap.size < wr.heap.size := by omega
      go_region_with (go_at_call 72; refine (HT.out q _ (wd xs k) _ _ (HGr.out.since (since_mono (by (repeat (first | (with_reducible refine Fl.sinDrew ?_) | (with_reducible refine World.Since.drew ?_) | (with_reducible refine Fl.sinSet ?_ ?_; rotate_left) | (with_reducible refine Fl.sinAlloc ?_ ?_; rotate_left) | with_reducible exact World.Since.refl _ _ | with_reducible assumption | (with_reducible refine Fl.sinStep (by with_reducible assumption) ?_))); all_goals (first | omega | (simp; done) | (simp; omega) | (simp [go_sem]; done) | (simp [go_sem]; omega))) hgw)) HQ.out hx).mono ?_; rintro e w2 ⟨y, ⟨ra, rb, rc, rd⟩, rfl, hy, hm, hs⟩; (try replace hs := sinUD hs); (try have y20 : wr.heap.size < w2.heap.size := (by have hsz := hs.size; (try simp only [World.drew, World.drewN, Go.Deep.nblk_alloc, Go.Deep.nblk_setCell] at hsz); omega)); obtain ⟨hc2, hf2⟩ := Fl.sinCell hs; have HSY := Lib.hid hs; clear hs; have HMY := Lib.hid hm; clear hm; simp only [MemN.val_mk])
      all_goals
        first
        | (generalize hV : World.alloc w2 _ = V
           have SV : Hid (wr.Since wr.heap.size V) := Lib.hid (by rw [← hV]; exact HSY.out.alloc HSY.out.size _)
           have pl := HSY.out.size
           have PB : Hid (MemB 28 V w2.heap.size ⟨ra, rb, rc, rd⟩) := Lib.hid (by rw [← hV]; exact MemB.new _ _ _ _ _ _)
           skip)
        | (generalize hV : World.setCell _ _ _ = V
           have pl := Nat.le_refl wr.heap.size
           have hsy2 : wr.Since wr.heap.size w2 := ((World.Since.refl _ _).alloc (Nat.le_refl _) _).trans (since_mono HSY.out (by simp))
           have SV : Hid (wr.Since wr.heap.size V) := Lib.hid (by rw [← hV]; exact (((hsy2.setCell (Nat.le_refl _) _).setCell (Nat.le_refl _) _).setCell (Nat.le_refl _) _).setCell (Nat.le_refl _) _)
           have PB : Hid (MemB 28 V wr.heap.size ⟨ra, rb, rc, rd⟩) := Lib.hid (by rw [← hV]; exact MemB.set (m := ⟨0, 0, 0, 0⟩) ((HSY.out.block _ (by simp)).trans (MemB.new _ _ _ _ _ _)) _ _ _ _)
           clear hsy2)
        clear hV
        have HRV := Lib.hid (HR.out.since SV.out)
        have hol := Lib.hid HR.out.own_lt
        have hszV := SV.out.size
        have HBV := Lib.hid (HB1.out.since SV.out hbb9)
        have HCV := Lib.hid (HB2.out.since SV.out (by omega))
        have hplt := PB.out.lt
        go_wp2_with (at_builtin; refine wpList_app1k rfl (.tmp 35) (.tmp 37) rfl (w.heap.size + 1 + 1) _ k _ rfl _ _ rfl (by simp [go_sem]) (by omega) (by simp; omega) hy (HRV.out.alloc _) wr.heap.size hol.out ?_; intro v' w4 hR4 hS4 hK4; have PB4 := Lib.hid (PB.out.of ((hK4.out _ pl (by simp; omega)).trans (((World.Since.refl V.heap.size V).alloc (Nat.le_refl _) _).block _ hplt))); have S4 := Lib.hid (((World.Since.refl _ V).alloc (show w.heap.size + 1 + 1 ≤ V.heap.size by omega) _).trans hS4.out); have HB4 := Lib.hid (HBV.out.since S4.out (by omega)); have HC4 := Lib.hid (HCV.out.since S4.out (by omega)); have p0 := PB4.out.c0; have p1 := PB4.out.c1; have p2 := PB4.out.c2; have p3 := PB4.out.c3; have e0 := HB4.out.c0; have e1 := HB4.out.c1; have e2 := HB4.out.c2; have e3 := HB4.out.c3; have l0 := HB4.out.free 0; have l1 := HB4.out.free 1; have l2 := HB4.out.free 2; have l3 := HB4.out.free 3)
        have OO : Hid (On w.heap.size w4 ((((w4.setCell ⟨w.heap.size, 0, none⟩ (.float .f32 ra)).setCell ⟨w.heap.size, 1, none⟩ (.float .f32 rb)).setCell ⟨w.heap.size, 2, none⟩ (.float .f32 rc)).setCell ⟨w.heap.size, 3, none⟩ (.float .f32 rd))) := Lib.hid (((((On.refl _ _).set _ _).set _ _).set _ _).set _ _)
        have NB := Lib.hid (HB4.out.set ra rb rc rd)
        have hz4 := S4.out.size
        go_roundw
        case rel => exact ⟨k + 1, ⟨ra, rb, rc, rd⟩, by omega, by go_num, hR4.out.on OO.out (by omega), NB.out, HC4.out.of (OO.out.2 _ HC4.out.lt (by omega)), HMY.out, (HS.out.trans (since_mono SV.out (by omega))).trans ((since_mono S4.out (by omega)).trans (since_mono OO.out.1 (Nat.le_refl _))), by have := OO.out.1.size; omega⟩
        case measure => simp [intOf]; omega
    · obtain rfl : k = n := by omega
      obtain ⟨p, cp, rfl, rfl, hg2, ha2⟩ := HR.out.done
      have HG2 := Lib.hid hg2; have HA2 := Lib.hid ha2; clear hg2 ha2
      have m0 := HB1.out.c0; have m1 := HB1.out.c1; have m2 := HB1.out.c2; have m3 := HB1.out.c3
      have n0 := HB2.out.c0; have n1 := HB2.out.c1; have n2 := HB2.out.c2; have n3 := HB2.out.c3
      have f0 := HB2.out.free 0; have f1 := HB2.out.free 1; have f2 := HB2.out.free 2; have f3 := HB2.out.free 3
      go_wp2_with fail
      go_region
      all_goals
        have OO : Hid (On (w.heap.size + 1) wr (((((wr.setCell ⟨w.heap.size + 1, 0, none⟩ (.float .f32 q.a)).setCell ⟨w.heap.size + 1, 1, none⟩ (.float .f32 q.b)).setCell ⟨w.heap.size + 1, 2, none⟩ (.float .f32 q.c)).setCell ⟨w.heap.size + 1, 3, none⟩ (.float .f32 q.d)))) := Lib.hid (((((On.refl _ _).set _ _).set _ _).set _ _).set _ _)
        have NB := Lib.hid (HB2.out.set q.a q.b q.c q.d)
        generalize hV : World.setCell _ _ _ = V at *
        have g0 := NB.out.c0; have g1 := NB.out.c1; have g2 := NB.out.c2; have g3 := NB.out.c3
        have SV : Hid (w.Since w.heap.size V) := Lib.hid (HS.out.trans (since_mono OO.out.1 (by omega)))
        have GV := Lib.hid ((HG2.out.less (show w.heap.size ≤ w.heap.size + 1 + 1 by omega)))
        go_wp2
        exact bodyPost_ret (v := .tuple #[.slice p.A p.n cp, .agg #[.float .f32 q.a, .float .f32 q.b, .float .f32 q.c, .float .f32 q.d]]) (by simp [results, Try.results60, go_sem, g0, g1, g2, g3]) rfl
          ⟨p, cp, q, rfl, rfl, (gs_low HG2.out OO.out (by omega)).less (by omega), HA2.out, HQ.out, by first | exact SV.out | exact since_drewN SV.out _⟩
end Go.Proofs.Ytebocaicebolaaa

/- Filters: a filter over samples in their places, the program's. -/
set_option linter.unusedVariables false
set_option linter.unusedSimpArgs false
namespace Go.Proofs.Ytebocaicebolaaa
open Fl Go.RowKit
/-- a block of so many numbers, the first k of which are the new ones -/
def Pr (w : World) (g n k : Nat) (Y X : Nat → O) : Prop := ∃ xs : List Nat, xs.length = n ∧ Small xs ∧ GCells w g n (fv xs) ∧ ∀ j, j < n → ab .f32 (wd xs j) = if j < k then Y j else X j
section
variable {w w' : World} {g n k : Nat} {Y X : Nat → O}
theorem Pr.put (h : Pr w g n k Y X) (hk : k < n) {r : Nat} (hr : Hid (Fv .f32 r (Y k))) : Pr (w.setCell ⟨g, k, none⟩ (.float .f32 r)) g n (k + 1) Y X := by
  obtain ⟨xs, h1, h2, h3, h4⟩ := h
  refine ⟨xs.set k r, by rw [List.length_set, h1], fun x hx => ?_, (h3.set k _).congr (fun j hj => ?_), fun j hj => ?_⟩
  · rcases List.mem_or_eq_of_mem_set hx with h | rfl
    · exact h2 x h
    · exact hr.out.1
  · unfold fv wd
    by_cases e : j = k
    · subst e; rw [if_pos rfl]; simp [List.getD_eq_getElem?_getD, List.getElem?_set, h1, hj]
    · rw [if_neg e]; simp [List.getD_eq_getElem?_getD, List.getElem?_set, show ¬ (k = j) from fun h => e h.symm]
  · unfold wd
    by_cases e : j = k
    · subst e
      rw [if_pos (by omega)]
      simp [List.getD_eq_getElem?_getD, List.getElem?_set, h1, hk]
      exact hr.out.2
    · have := h4 j hj
      unfold wd at this
      rw [show (if j < k + 1 then Y j else X j) = if j < k then Y j else X j by by_cases e2 : j < k; rw [if_pos e2, if_pos (by omega)]; rw [if_neg e2, if_neg (by omega)]]
      simpa [List.getD_eq_getElem?_getD, List.getElem?_set, show ¬ (k = j) from fun h => e h.symm] using this
theorem Pr.keep (h : Pr w g n k Y X) (e : w'.heap[g]? = w.heap[g]?) : Pr w' g n k Y X := by
  obtain ⟨xs, h1, h2, ⟨cs, hb, hc⟩, h4⟩ := h
  exact ⟨xs, h1, h2, ⟨cs, e.trans hb, hc⟩, h4⟩
theorem Pr.lt (h : Pr w g n k Y X) : g < w.heap.size := by
  obtain ⟨xs, h1, h2, h3, h4⟩ := h
  exact h3.lt
theorem Pr.cell (h : Pr w g n k Y X) {j : Nat} (hj : j < n) (hk : k ≤ j) : ∃ x, w.cell? ⟨g, j, none⟩ = some (.float .f32 x) ∧ Hid (Fv .f32 x (X j)) := by
  obtain ⟨xs, h1, h2, h3, h4⟩ := h
  exact ⟨wd xs j, h3.cell hj, Lib.hid ⟨h2.at_ j, by rw [h4 j hj, if_neg (by omega)]⟩⟩
theorem Pr.free (h : Pr w g n k Y X) (j : Nat) : w.frozen? ⟨g, j, none⟩ = false := by
  obtain ⟨xs, h1, h2, h3, h4⟩ := h
  exact h3.free j
theorem Pr.done {lo : Nat} (h : Pr w g n n Y X) (hl : lo ≤ g) : ∃ xs, Gs 22 w lo (some ⟨g, 0, none⟩) n xs ∧ Are ⟨some ⟨g, 0, none⟩, n, xs⟩ Y := by
  obtain ⟨xs, h1, h2, ⟨cs, hb, hc⟩, h4⟩ := h
  exact ⟨xs, ⟨h1, h2, fun _ => ⟨g, cs, rfl, hl, hb, hc⟩⟩, fun j hj => by rw [h4 j hj, if_pos hj]⟩
theorem Pr.of {lo : Nat} {xs : List Nat} (h : Gs 22 w lo (some ⟨g, 0, none⟩) n xs) (h0 : 0 < n) (hx : ∀ j, j < n → ab .f32 (wd xs j) = X j) : lo ≤ g ∧ Pr w g n 0 Y X := by
  obtain ⟨h1, h2, h3⟩ := h
  obtain ⟨g', cs, e, hl, hb, hc⟩ := h3 h0
  injection e with e
  injection e with e1 _ _
  subst e1
  exact ⟨hl, xs, h1, h2, ⟨cs, hb, hc⟩, fun j hj => by rw [if_neg (by omega)]; exact hx j hj⟩
end
def isNext (form : Nat) (k : FuncId) : Prop := (form = 0 ∧ k = 69) ∨ (form = 1 ∧ k = 88) ∨ (form = 2 ∧ k = 89)
theorem next_step {form : Nat} {k : FuncId} (h : isNext form k) (fu : Bool) (f : FilN) (m : MemN) (x : Nat) (F : Fil) (M : Mem) (X : O) (w : World) (hF : FvF f F) (hM : FvM m M) (hx : Hid (Fv .f32 x X)) :
    Calls Try.prog 74 #[setV f fu, .func (.func k) #[] #[], m.val, .float .f32 x] w (StepPost w (stepY form fu F M X) (stepM form fu F M X)) := by
  rw [stepM_raw]
  rcases h with ⟨rfl, rfl⟩ | ⟨rfl, rfl⟩ | ⟨rfl, rfl⟩
  · exact nextDir_any fu f m x F M X w hF hM hx
  · exact nextTur_any fu f m x F M X w hF hM hx
  · exact nextCan_any fu f m x F M X w hF hM hx
set_option maxHeartbeats 8000000 in
set_option maxRecDepth 100000 in
theorem implRun_any (form : Nat) (kk : FuncId) (hform : isNext form kk) (fu : Bool) (f : FilN) (m : MemN) (F : Fil) (M : Mem) (A : Option Addr) (n c g lo : Nat) (X : Nat → O) (w : World) (hF : FvF f F) (hM : FvM m M) (hA : 0 < n → A = some ⟨g, 0, none⟩ ∧ lo ≤ g ∧ Pr w g n 0 (filY form fu F M X) X) (hn : n ≤ 256) (hlo : lo ≤ w.heap.size) :
    Calls Try.prog 65 #[setV f fu, .func (.func kk) #[] #[], m.val, .slice A n c] w fun e w' => ∃ m' : MemN, e = .returned m'.val ∧ FvM m' (filM form fu F M X n) ∧ (0 < n → Pr w' g n n (filY form fu F M X) X) ∧ w.Since lo w' ∧ (∀ i, i < w.heap.size → i ≠ g → w'.heap[i]? = w.heap[i]?) := by
  have HT := Lib.hid fun (m : MemN) (M : Mem) (x : Nat) (X : O) (v : World) (hM : FvM m M) (hx : Hid (Fv .f32 x X)) => next_step hform fu f m x F M X v hF hM hx
  have HA := Lib.hid hA; clear hA
  obtain ⟨b0, b1, b2, a1, a2⟩ := f
  obtain ⟨ma, mb, mc, md⟩ := m
  unfold MemN.val at *
  unfold setV at *
  go_enter Try.func65, Try.ntmps65
  go_wp2_with fail
  generalize hW1 : World.alloc w _ = W1
  generalize hW2 : World.alloc W1 _ = W2
  generalize hW3 : World.alloc W2 _ = W3
  have z1 : W1.heap.size = w.heap.size + 1 := by rw [← hW1]; simp
  have z2 : W2.heap.size = w.heap.size + 1 + 1 := by rw [← hW2]; simp [z1]
  have z3 : W3.heap.size = w.heap.size + 1 + 1 + 1 := by rw [← hW3]; simp [z2]
  have b0 : W1.heap[w.heap.size]? = some (.cells #[.float .f32 b0, .float .f32 b1, .float .f32 b2, .float .f32 a1, .float .f32 a2, .bool fu] 95 (0, 0)) := by rw [← hW1]; exact Go.Deep.blk_alloc_new _ _
  have b1 : MemB 93 W2 (w.heap.size + 1) ⟨ma, mb, mc, md⟩ := by rw [← hW2, ← z1]; exact MemB.new _ _ _ _ _ _
  have b2 : MemB 93 W3 (w.heap.size + 1 + 1) ⟨0, 0, 0, 0⟩ := by rw [← hW3, ← z2]; exact MemB.new _ _ _ _ _ _
  have s1 : w.Since w.heap.size W1 := by rw [← hW1]; exact (World.Since.refl _ _).alloc (Nat.le_refl _) _
  have s2 : W1.Since W1.heap.size W2 := by rw [← hW2]; exact (World.Since.refl _ _).alloc (Nat.le_refl _) _
  have s3 : W2.Since W2.heap.size W3 := by rw [← hW3]; exact (World.Since.refl _ _).alloc (Nat.le_refl _) _
  have C0 := Lib.hid (((s3.block _ (by omega)).trans (s2.block _ (by omega))).trans b0)
  have B1 := Lib.hid (b1.since s3 (by omega))
  have B2 := Lib.hid b2
  have S3 : Hid (w.Since w.heap.size W3) := Lib.hid ((s1.trans (since_mono s2 (by omega))).trans (since_mono s3 (by omega)))
  clear hW1 hW2 hW3 s1 s2 s3 b0 b1 b2 z1 z2
  go_loopw [13] (fun i wr => ∃ (k : Nat) (q : MemN), k ≤ n ∧ i = .int .i64 (k : Int) ∧ (0 < n → Pr wr g n k (filY form fu F M X) X) ∧ wr.heap[w.heap.size]? = W3.heap[w.heap.size]? ∧ MemB 93 wr (w.heap.size + 1) q ∧ MemB 93 wr (w.heap.size + 1 + 1) ⟨0, 0, 0, 0⟩ ∧ FvM q (filM form fu F M X k) ∧ w.Since lo wr ∧ (∀ i, i < w.heap.size → i ≠ g → wr.heap[i]? = w.heap[i]?) ∧ w.heap.size + 1 + 1 + 1 ≤ wr.heap.size) (fun i _ => n - (intOf i).toNat)
  case atStart => exact ⟨0, _, Nat.zero_le _, rfl, fun h => (HA.out h).2.2.keep (S3.out.block _ (HA.out h).2.2.lt), rfl, B1.out, B2.out, hM, since_mono S3.out hlo, fun i hi _ => S3.out.block i hi, by omega⟩
  case round =>
    obtain ⟨k, q, hk, rfl, hp, hc0, hb1, hb2, hq, hs, ho, hz⟩ := hrel
    have HP := Lib.hid hp; have HC0 := Lib.hid (hc0.trans C0.out); have HC9 := Lib.hid hc0; have HB1 := Lib.hid hb1; have HB2 := Lib.hid hb2; have HQ := Lib.hid hq; have HS := Lib.hid hs; have HO := Lib.hid ho
    clear hp hc0 hb1 hb2 hq hs ho
    by_cases hlt : k < n
    · obtain ⟨rfl, hlg, hpw⟩ := HA.out (by omega)
      have hgw := hpw.lt
      have hpk := HP.out (by omega)
      obtain ⟨x, hcell, hx⟩ := hpk.cell hlt (Nat.le_refl _)
      have hfg := hpk.free k
      have hggr : g < wr.heap.size := by omega
      have HPK := Lib.hid hpk
      have m0 := HB1.out.c0; have m1 := HB1.out.c1; have m2 := HB1.out.c2; have m3 := HB1.out.c3
      have k0 : wr.cell? ⟨w.heap.size, 0, none⟩ = some (.float .f32 b0) := by have := HC0.out; simp [World.cell?, this]
      have k1 : wr.cell? ⟨w.heap.size, 1, none⟩ = some (.float .f32 b1) := by have := HC0.out; simp [World.cell?, this]
      have k2 : wr.cell? ⟨w.heap.size, 2, none⟩ = some (.float .f32 b2) := by have := HC0.out; simp [World.cell?, this]
      have k3 : wr.cell? ⟨w.heap.size, 3, none⟩ = some (.float .f32 a1) := by have := HC0.out; simp [World.cell?, this]
      have k4 : wr.cell? ⟨w.heap.size, 4, none⟩ = some (.float .f32 a2) := by have := HC0.out; simp [World.cell?, this]
      have k5 : wr.cell? ⟨w.heap.size, 5, none⟩ = some (.bool fu) := by have := HC0.out; simp [World.cell?, this]
      clear hpk hpw
      go_wp2_with fail
      refine (HT.out q _ x (X k) wr HQ.out hx).mono ?_
      rintro e w2 ⟨y, ⟨ra, rb, rc, rd⟩, rfl, hy, hm, hs⟩
      have HM2 := Lib.hid hm
      have hsz := hs.size
      have P2 := Lib.hid (HPK.out.keep (hs.block _ hggr))
      have E1 := Lib.hid (HB1.out.since hs (by omega))
      have E2 := Lib.hid (HB2.out.since hs (by omega))
      have E0 := Lib.hid ((hs.block w.heap.size (by omega)).trans HC9.out)
      have T2 := Lib.hid (HS.out.trans (since_mono hs (show lo ≤ wr.heap.size by omega)))
      have O2 : Hid (∀ i, i < w.heap.size → i ≠ g → w2.heap[i]? = w.heap[i]?) := Lib.hid fun i hi hn => (hs.block i (by omega)).trans (HO.out i hi hn)
      clear hs hm hcell hfg m0 m1 m2 m3 k0 k1 k2 k3 k4 k5
      obtain ⟨x', hcell, _⟩ := P2.out.cell hlt (Nat.le_refl _)
      have hfg := P2.out.free k
      have m0 := E1.out.c0; have m1 := E1.out.c1; have m2 := E1.out.c2; have m3 := E1.out.c3
      have l0 := E1.out.free 0; have l1 := E1.out.free 1; have l2 := E1.out.free 2; have l3 := E1.out.free 3
      have hne : ¬ g = w.heap.size + 1 := by omega
      have hne2 : ¬ w.heap.size + 1 = g := by omega
      simp only [MemN.val_mk]
      have P3 := Lib.hid (P2.out.put hlt hy)
      have OO : Hid (On (w.heap.size + 1) (w2.setCell ⟨g, k, none⟩ (.float .f32 y)) (((((w2.setCell ⟨g, k, none⟩ (.float .f32 y)).setCell ⟨w.heap.size + 1, 0, none⟩ (.float .f32 ra)).setCell ⟨w.heap.size + 1, 1, none⟩ (.float .f32 rb)).setCell ⟨w.heap.size + 1, 2, none⟩ (.float .f32 rc)).setCell ⟨w.heap.size + 1, 3, none⟩ (.float .f32 rd))) := Lib.hid (((((On.refl _ _).set _ _).set _ _).set _ _).set _ _)
      have NB := Lib.hid ((E1.out.of (w' := w2.setCell ⟨g, k, none⟩ (.float .f32 y)) (Go.Deep.blk_setCell_other _ _ _ _ hne2)).set ra rb rc rd)
      have oth : Hid (∀ i, i < w2.heap.size → i ≠ g → (w2.setCell ⟨g, k, none⟩ (.float .f32 y)).heap[i]? = w2.heap[i]?) := Lib.hid fun i _ hn => Go.Deep.blk_setCell_other _ _ _ _ hn
      have hsz3 : (w2.setCell ⟨g, k, none⟩ (.float .f32 y)).heap.size = w2.heap.size := Go.Deep.nblk_setCell _ _ _
      go_wp2_with fail
      go_roundw
      case rel => exact ⟨k + 1, ⟨ra, rb, rc, rd⟩, by omega, by go_num, fun _ => P3.out.keep (OO.out.2 _ (by omega) hne), (OO.out.2 _ (by omega) (by omega)).trans ((oth.out _ (by omega) (by omega)).trans E0.out), NB.out, E2.out.of ((OO.out.2 _ (by omega) (by omega)).trans (oth.out _ (by omega) (by omega))), HM2.out, (T2.out.setCell hlg _).trans (since_mono OO.out.1 (by omega)), fun i hi hn => (OO.out.2 _ (by omega) (by omega)).trans ((oth.out _ (by omega) hn).trans (O2.out i hi hn)), by have := OO.out.1.size; omega⟩
      case measure => simp [intOf]; omega
    · obtain rfl : k = n := by omega
      have m0 := HB1.out.c0; have m1 := HB1.out.c1; have m2 := HB1.out.c2; have m3 := HB1.out.c3
      have n0 := HB2.out.c0; have n1 := HB2.out.c1; have n2 := HB2.out.c2; have n3 := HB2.out.c3
      have f0 := HB2.out.free 0; have f1 := HB2.out.free 1; have f2 := HB2.out.free 2; have f3 := HB2.out.free 3
      have OO : Hid (On (w.heap.size + 1 + 1) wr (((((wr.setCell ⟨w.heap.size + 1 + 1, 0, none⟩ (.float .f32 q.a)).setCell ⟨w.heap.size + 1 + 1, 1, none⟩ (.float .f32 q.b)).setCell ⟨w.heap.size + 1 + 1, 2, none⟩ (.float .f32 q.c)).setCell ⟨w.heap.size + 1 + 1, 3, none⟩ (.float .f32 q.d)))) := Lib.hid (((((On.refl _ _).set _ _).set _ _).set _ _).set _ _)
      have NB := Lib.hid (HB2.out.set q.a q.b q.c q.d)
      go_wp2_with fail
      generalize hV : World.setCell _ _ _ = V at *
      have g0 := NB.out.c0; have g1 := NB.out.c1; have g2 := NB.out.c2; have g3 := NB.out.c3
      exact bodyPost_ret (v := .agg #[.float .f32 q.a, .float .f32 q.b, .float .f32 q.c, .float .f32 q.d]) (by simp [results, Try.results65, go_sem, g0, g1, g2, g3]) rfl
        ⟨q, rfl, HQ.out, fun h => (HP.out h).keep (OO.out.2 _ (HP.out h).lt (by have := (HA.out h).2.2.lt; omega)), HS.out.trans (since_mono OO.out.1 (by omega)), fun i hi hn => (OO.out.2 _ (by omega) (by omega)).trans (HO.out i hi hn)⟩
end Go.Proofs.Ytebocaicebolaaa

/- Filters: impulses, both sides. -/
set_option linter.unusedVariables false
set_option linter.unusedSimpArgs false
namespace Go.Proofs.Ytebocaicebolaaa
open Fl Go.RowKit
def impX (k : Nat) : O := if k = 0 then some 1065353216 else some 0
def impL (n : Nat) : List Nat := (List.range n).map fun j => if j = 0 then 1065353216 else 0
theorem impL_wd {n j : Nat} (h : j < n) : wd (impL n) j = if j = 0 then 1065353216 else 0 := by unfold impL wd; simp [h]
theorem imp_are (n : Nat) (A : Option Addr) : Are ⟨A, n, impL n⟩ impX := fun j (hj : j < n) => by
  show ab .f32 (wd (impL n) j) = impX j
  rw [impL_wd hj]
  unfold impX
  by_cases e : j = 0
  · rw [if_pos e, if_pos e, ab32, if_neg (by decide)]
  · rw [if_neg e, if_neg e, ab32, if_neg (by decide)]
theorem imp_gs {w : World} {g n lo : Nat} (hl : lo ≤ g) (h : GCells w g n (fun j => .float .f32 (if j = 0 then 1065353216 else 0))) : Gs 22 w lo (some ⟨g, 0, none⟩) n (impL n) := by
  obtain ⟨cs, hb, hc⟩ := h
  refine ⟨by simp [impL], fun x hx => ?_, fun _ => ⟨g, cs, rfl, hl, hb, fun k hk => ?_⟩⟩
  · unfold impL at hx
    obtain ⟨j, _, rfl⟩ := List.mem_map.1 hx
    split <;> decide
  · rw [hc k hk]; unfold fv; rw [impL_wd hk]
theorem made_cells (w : World) (n : Nat) : GCells (w.alloc (.cells (madeCells #[.float .f32 0] n) 22)) w.heap.size n (fun _ => .float .f32 0) := by
  obtain ⟨cs, hb, _, hc⟩ := World.rowIs_made w (.float .f32 0) n 22
  exact ⟨cs, hb, fun j hj => hc j hj⟩
set_option maxHeartbeats 4000000 in
set_option maxRecDepth 100000 in
theorem impulse_any (n : Nat) (hn : n ≤ 256) (w : World) :
    Calls Try.prog 64 #[.int .i64 (n : Int)] w fun e w' => e = .returned (.slice (some ⟨w.heap.size, 0, none⟩) n n) ∧ Gs 22 w' w.heap.size (some ⟨w.heap.size, 0, none⟩) n (impL n) ∧ w.Since w.heap.size w' := by
  have hmk := fun W => run_make_row' (P := Try.prog) 27 22 (.float .f32 0) 4 Try.underlying27 Try.infoF rfl .i64 .i64 n (by omega) (by omega) W
  have G1 := Lib.hid (made_cells w n)
  by_cases h0 : n = 0
  · have hd : decide (0 < n) = false := decide_eq_false (by omega)
    have H0 := Lib.hid h0; clear h0
    go_enter Try.func64, Try.ntmps64
    go_wp2
    go_ret
    exact ⟨rfl, imp_gs (Nat.le_refl _) (G1.out.congr fun j hj => by have := H0.out; omega), (World.Since.refl _ _).alloc (Nat.le_refl _) _⟩
  · have hd : decide (0 < n) = true := decide_eq_true (by omega)
    have hc0 := G1.out.cell (j := 0) (by omega)
    have hf0 := G1.out.free 0
    have G2 := Lib.hid ((G1.out.set 0 (.float .f32 1065353216)).congr (f' := fun j => .float .f32 (if j = 0 then 1065353216 else 0)) fun j _ => by by_cases e : j = 0 <;> simp [e])
    have S1 : Hid (w.Since w.heap.size ((w.alloc (.cells (madeCells #[.float .f32 0] n) 22)).setCell ⟨w.heap.size, 0, none⟩ (.float .f32 1065353216))) := Lib.hid (((World.Since.refl _ _).alloc (Nat.le_refl _) _).setCell (Nat.le_refl _) _)
    go_enter Try.func64, Try.ntmps64
    go_wp2
    go_ret
    exact ⟨rfl, imp_gs (Nat.le_refl _) (by simpa [go_sem] using G2.out), by simpa [go_sem] using S1.out⟩
theorem noM_fv : FvM ⟨0, 0, 0, 0⟩ noM := fvNo
set_option maxHeartbeats 8000000 in
set_option maxRecDepth 100000 in
theorem specImp_ok (form : Nat) (hform : form ≤ 2) (f : FilN) (F : Fil) (n : Nat) (w : World) (hF : FvF f F) (hn : n ≤ 256) :
    Calls Try.prog 22 #[f.val, .int .i64 (form : Int), .int .i64 (n : Int)] w (PLB n (filY form false F noM impX) true w) := by
  have hmk := fun W => run_make_row' (P := Try.prog) 27 22 (.float .f32 0) 4 Try.underlying27 Try.infoF rfl .i64 .i64 n (by omega) (by omega) W
  have h1 : inB (form : Int) 0 2 = true := by simp only [inB, Bool.and_eq_true, decide_eq_true_eq]; omega
  have h2 : inB (n : Int) 0 256 = true := by simp only [inB, Bool.and_eq_true, decide_eq_true_eq]; omega
  have HIN : Hid (∀ v, Calls Try.prog 62 #[.int .i64 (n : Int), .int .i64 0, .int .i64 256] v fun e w' => e = .returned (.bool true) ∧ v = w') := Lib.hid fun v => by have := l00In_any (n : Int) 0 256 v; rw [h2] at this; exact this
  obtain ⟨b0, b1, b2, a1, a2⟩ := f
  unfold FilN.val
  obtain ⟨W1, hW1⟩ : ∃ W, Hid (w.alloc (.cells #[.float .f32 b0, .float .f32 b1, .float .f32 b2, .float .f32 a1, .float .f32 a2] 31) = W) := ⟨_, Lib.hid rfl⟩
  have z1 : W1.heap.size = w.heap.size + 1 := by rw [← hW1.out]; simp
  have FA : FilAt W1 w.heap.size ⟨b0, b1, b2, a1, a2⟩ := by rw [← hW1.out]; exact ⟨by simp, by simp [go_sem], by simp [go_sem], by simp [go_sem], by simp [go_sem], by simp [go_sem]⟩
  have S1 : w.Since w.heap.size W1 := by rw [← hW1.out]; exact (World.Since.refl _ _).alloc (Nat.le_refl _) _
  have G1 := made_cells W1 n
  have S2 : W1.Since W1.heap.size (W1.alloc (.cells (madeCells #[.float .f32 0] n) 22)) := (World.Since.refl _ _).alloc (Nat.le_refl _) _
  have HFA := Lib.hid FA; have HS1 := Lib.hid S1; have HG1 := Lib.hid G1; have HS2 := Lib.hid S2; clear FA S1 G1 S2
  -- what is behind the samples
  have rest : ∀ V : World, Gs 22 V w.heap.size (some ⟨w.heap.size + 1, 0, none⟩) n (impL n) → W1.Since W1.heap.size V → Calls Try.prog 60 #[.pointer (some ⟨w.heap.size, 0, none⟩), .int .i64 (form : Int), .bool false, .agg #[.float .f32 0, .float .f32 0, .float .f32 0, .float .f32 0], .slice (some ⟨w.heap.size + 1, 0, none⟩) n n] V (PLM n (filY form false F noM impX) (filM form false F noM impX n) V) := fun V hg hs => by
    have h9 := specRun_any form hform false w.heap.size ⟨b0, b1, b2, a1, a2⟩ ⟨0, 0, 0, 0⟩ F noM (some ⟨w.heap.size + 1, 0, none⟩) n n (impL n) V (HFA.out.since (since_mono hs (by omega))) hF noM_fv hg.read hn
    simp only [MemN.val] at h9
    refine h9.mono fun e w' => ?_
    rintro ⟨p, c, m, he, hp, hg, ha, hm, hs⟩
    have hl : ∀ k, k < n → (fun k => ab .f32 (wd (impL n) k)) k = impX k := fun k hk => imp_are n none k hk
    exact ⟨p, c, m, he, hp, hg, fun k hk => (ha k hk).trans (filY_like hl k (by omega)), by rw [← filM_like hl n (Nat.le_refl _)]; exact hm, hs⟩
  have REST := Lib.hid rest; clear rest
  go_enter Try.func22, Try.ntmps22
  go_wp2_with fail
  rw [hW1.out]
  go_at_call 58
  refine (l02Form_any _ _ _ h1).mono ?_
  rintro e w' ⟨rfl, rfl⟩
  have HG1' := HG1.out
  rw [z1] at HG1'
  have HG2 := Lib.hid HG1'; clear HG1' HG1
  have hlw : w.heap.size ≤ w.heap.size + 1 := by omega
  cases hd : decide (0 < n)
  · have hG := Lib.hid (imp_gs (n := n) hlw (HG2.out.congr fun j hj => by have := of_decide_eq_false hd; omega))
    go_wp2_with (go_at_call 62; refine (HIN.out _).mono ?_; rintro e w' ⟨rfl, rfl⟩)
    generalize hV : World.alloc W1 _ = V at *
    refine (REST.out V hG.out HS2.out).mono ?_
    rintro e w5 ⟨p, c, m, rfl, rfl, hg, ha, hm, hs⟩
    obtain ⟨ma, mb, mc, md⟩ := m
    have SV := Lib.hid ((since_step HS1.out HS2.out))
    have S5 := Lib.hid (since_step SV.out hs)
    have hz5 := SV.out.size
    have HGG := Lib.hid (hg.less hz5); have HAA := Lib.hid ha; clear hg ha hm hs hV
    simp only [MemN.val]
    go_wp2
    go_ret2
    exact ⟨p, c, rfl, rfl, HGG.out.since ((World.Since.refl _ _).alloc (Nat.le_refl _) _), HAA.out, S5.out.alloc S5.out.size _⟩
  · have hc0 := HG2.out.cell (j := 0) (by have := of_decide_eq_true hd; omega)
    have hf0 := HG2.out.free 0
    have hpos : 0 < n := of_decide_eq_true hd
    have hne : ¬ n = 0 := by omega
    have HS3 : Hid (W1.Since W1.heap.size ((W1.alloc (.cells (madeCells #[.float .f32 0] n) 22)).setCell ⟨w.heap.size + 1, 0, none⟩ (.float .f32 1065353216))) := Lib.hid (HS2.out.setCell (show W1.heap.size ≤ w.heap.size + 1 by omega) _)
    have hG := Lib.hid (imp_gs (n := n) hlw ((HG2.out.set 0 (.float .f32 1065353216)).congr (f' := fun j => .float .f32 (if j = 0 then 1065353216 else 0)) fun j _ => by by_cases e : j = 0 <;> simp [e]))
    go_wp2_with (go_at_call 62; refine (HIN.out _).mono ?_; rintro e w' ⟨rfl, rfl⟩)
    have e9 : (W1.alloc (.cells (madeCells #[.float .f32 0] n) 22)).setCell ⟨w.heap.size + 1, 0, none⟩ (.float .f32 1065353216) = W1.alloc (.cells ((madeCells #[.float .f32 0] n).setIfInBounds 0 (.float .f32 1065353216)) 22) := by
      rw [← z1]; simp [go_sem]
    rw [e9] at hG HS3
    clear e9 hc0 hf0 HG2 HS2
    generalize hV : World.alloc W1 _ = V at hG HS3 ⊢
    refine (REST.out V hG.out HS3.out).mono ?_
    rintro e w5 ⟨p, c, m, rfl, rfl, hg, ha, hm, hs⟩
    obtain ⟨ma, mb, mc, md⟩ := m
    have SV := Lib.hid ((since_step HS1.out HS3.out))
    have S5 := Lib.hid (since_step SV.out hs)
    have hz5 := SV.out.size
    have HGG := Lib.hid (hg.less hz5); have HAA := Lib.hid ha; clear hg ha hm hs hV
    simp only [MemN.val]
    go_wp2
    go_ret2
    exact ⟨p, c, rfl, rfl, HGG.out.since ((World.Since.refl _ _).alloc (Nat.le_refl _) _), HAA.out, S5.out.alloc S5.out.size _⟩
theorem stepOf_any (form : Nat) (hform : form ≤ 2) : ∃ kk, isNext form kk ∧ ∀ w, Calls Try.prog 63 #[.int .i64 (form : Int)] w fun e w' => e = .returned (.tuple #[.func (.func kk) #[] #[], .bool true]) ∧ w = w' := by
  match form, hform with
  | 0, _ => exact ⟨_, .inl ⟨rfl, rfl⟩, stepOf_Dir⟩
  | 1, _ => exact ⟨_, .inr (.inl ⟨rfl, rfl⟩), stepOf_Tur⟩
  | 2, _ => exact ⟨_, .inr (.inr ⟨rfl, rfl⟩), stepOf_Can⟩
set_option maxHeartbeats 8000000 in
set_option maxRecDepth 100000 in
theorem implImp_ok (form : Nat) (hform : form ≤ 2) (f : FilN) (F : Fil) (n : Nat) (w : World) (hF : FvF f F) (hn : n ≤ 256) :
    Calls Try.prog 23 #[f.val, .int .i64 (form : Int), .int .i64 (n : Int)] w (PLB n (filY form false F noM impX) true w) := by
  obtain ⟨kk, hkk, hso⟩ := stepOf_any form hform
  have HSO := Lib.hid hso; clear hso
  have HIM := Lib.hid fun v => impulse_any n hn v
  have d1 : decide ((n : Int) < 0) = false := decide_eq_false (by omega)
  have d2 : decide ((256 : Int) < (n : Int)) = false := decide_eq_false (by omega)
  have d3 : decide (256 < n) = false := decide_eq_false (by omega)
  obtain ⟨b0, b1, b2, a1, a2⟩ := f
  have rest : ∀ (V : World) (g : Nat), Gs 22 V w.heap.size (some ⟨g, 0, none⟩) n (impL n) → w.heap.size ≤ V.heap.size → Calls Try.prog 65 #[.agg #[.float .f32 b0, .float .f32 b1, .float .f32 b2, .float .f32 a1, .float .f32 a2, .bool false], .func (.func kk) #[] #[], .agg #[.float .f32 0, .float .f32 0, .float .f32 0, .float .f32 0], .slice (some ⟨g, 0, none⟩) n n] V fun e w' => ∃ ma mb mc md ys, e = .returned (.agg #[.float .f32 ma, .float .f32 mb, .float .f32 mc, .float .f32 md]) ∧ Gs 22 w' w.heap.size (some ⟨g, 0, none⟩) n ys ∧ Are ⟨some ⟨g, 0, none⟩, n, ys⟩ (filY form false F noM impX) ∧ V.Since w.heap.size w' := fun V g hg hs => by
    have h9 := implRun_any form kk hkk false ⟨b0, b1, b2, a1, a2⟩ ⟨0, 0, 0, 0⟩ F noM (some ⟨g, 0, none⟩) n n g w.heap.size impX V hF noM_fv (fun h0 => ⟨rfl, Pr.of hg h0 fun j hj => imp_are n none j hj⟩) hn hs
    simp only [MemN.val, setV] at h9
    refine h9.mono fun e w' => ?_
    rintro ⟨⟨ma, mb, mc, md⟩, he, hm, hp, hs2, _⟩
    by_cases h0 : 0 < n
    · obtain ⟨ys, h1, h2⟩ := (hp h0).done (Pr.of hg h0 (X := impX) (Y := impX) fun j hj => imp_are n none j hj).1
      exact ⟨ma, mb, mc, md, ys, he, h1, h2, hs2⟩
    · exact ⟨ma, mb, mc, md, [], he, ⟨by simp; omega, (fun x hx => by cases hx), fun h => absurd h h0⟩, fun j hj => absurd (Nat.lt_of_le_of_lt (Nat.zero_le _) hj) h0, hs2⟩
  have REST := Lib.hid rest; clear rest
  unfold FilN.val
  go_enter Try.func23, Try.ntmps23
  go_wp2_with fail
  generalize hW : World.alloc w _ = W1
  have S1 : Hid (w.Since w.heap.size W1) := Lib.hid (by rw [← hW]; exact (World.Since.refl _ _).alloc (Nat.le_refl _) _)
  have k0 : W1.cell? ⟨w.heap.size, 0, none⟩ = some (.float .f32 b0) := by rw [← hW]; simp [go_sem]
  have k1 : W1.cell? ⟨w.heap.size, 1, none⟩ = some (.float .f32 b1) := by rw [← hW]; simp [go_sem]
  have k2 : W1.cell? ⟨w.heap.size, 2, none⟩ = some (.float .f32 b2) := by rw [← hW]; simp [go_sem]
  have k3 : W1.cell? ⟨w.heap.size, 3, none⟩ = some (.float .f32 a1) := by rw [← hW]; simp [go_sem]
  have k4 : W1.cell? ⟨w.heap.size, 4, none⟩ = some (.float .f32 a2) := by rw [← hW]; simp [go_sem]
  have z1 : W1.heap.size = w.heap.size + 1 := by rw [← hW]; simp
  clear hW
  go_at_call 63
  refine (HSO.out _).mono ?_
  rintro e w' ⟨rfl, rfl⟩
  go_wp2_with fail
  refine (HIM.out _).mono ?_
  rintro e w2 ⟨rfl, hg, hs⟩
  have c0 := (hs.cell (a := ⟨w.heap.size, 0, none⟩) (show w.heap.size < W1.heap.size by omega)).trans k0
  have c1 := (hs.cell (a := ⟨w.heap.size, 1, none⟩) (show w.heap.size < W1.heap.size by omega)).trans k1
  have c2 := (hs.cell (a := ⟨w.heap.size, 2, none⟩) (show w.heap.size < W1.heap.size by omega)).trans k2
  have c3 := (hs.cell (a := ⟨w.heap.size, 3, none⟩) (show w.heap.size < W1.heap.size by omega)).trans k3
  have c4 := (hs.cell (a := ⟨w.heap.size, 4, none⟩) (show w.heap.size < W1.heap.size by omega)).trans k4
  have S2 := Lib.hid (since_step S1.out hs)
  have G2 := Lib.hid (hg.less S1.out.size)
  clear hs hg k0 k1 k2 k3 k4 z1
  generalize W1.heap.size = g at *
  go_wp2_with fail
  refine (REST.out w2 g G2.out S2.out.size).mono ?_
  rintro e w3 ⟨ma, mb, mc, md, ys, rfl, hg, ha, hs⟩
  have G3 := Lib.hid hg; have A3 := Lib.hid ha; have S3 := Lib.hid (S2.out.trans hs); clear hg ha hs
  go_wp2
  go_ret2
  exact ⟨⟨some ⟨g, 0, none⟩, n, ys⟩, n, rfl, rfl, G3.out, A3.out, S3.out⟩
end Go.Proofs.Ytebocaicebolaaa

/- Filters: one filter over samples, the model's function, and what fails. -/
set_option linter.unusedVariables false
set_option linter.unusedSimpArgs false
namespace Go.Proofs.Ytebocaicebolaaa
open Fl Go.RowKit
def PLMB (n0 : Nat) (f0 : Nat → O) (M : Mem) (b : Bool) (w : World) (e : Ending) (w' : World) : Prop :=
  ∃ (p : Ls) (c : Nat) (m : MemN), e = .returned (.tuple #[.slice p.A p.n c, m.val, .bool b]) ∧ p.n = n0 ∧ Gs 22 w' w.heap.size p.A p.n p.xs ∧ Are p f0 ∧ FvM m M ∧ w.Since w.heap.size w'
theorem PLMB.none_ {w w' : World} (s : w.Since w.heap.size w') (f0 : Nat → O) : PLMB 0 f0 noM false w (.returned (.tuple #[.slice none 0 0, .agg #[.float .f32 0, .float .f32 0, .float .f32 0, .float .f32 0], .bool false])) w' :=
  ⟨⟨none, 0, []⟩, 0, ⟨0, 0, 0, 0⟩, rfl, rfl, Gs.nil_, (fun k hk => by simp at hk), noM_fv, s⟩
theorem few_fil (A : Option Addr) (n c : Nat) (b : Bool) (w : World) (h : decide ((n : Int) ≤ 256) = b) : Calls Try.prog 59 #[.slice A n c] w fun e w' => e = .returned (.bool b) ∧ w = w' := by
  subst h
  go_enter Try.func59, Try.ntmps59
  go_wp2
  go_ret
  exact ⟨ret_bool (by simp), rfl⟩
set_option maxHeartbeats 8000000 in
set_option maxRecDepth 100000 in
theorem specRF_ok (form : Nat) (hform : form ≤ 2) (fu : Bool) (f : FilN) (m : MemN) (F : Fil) (M : Mem) (A : Option Addr) (n c : Nat) (xs : List Nat) (w : World) (hF : FvF f F) (hM : FvM m M) (hA : Fs w w.heap.size A n xs) (hn : n ≤ 256) :
    Calls Try.prog 13 #[f.val, .int .i64 (form : Int), .bool fu, m.val, .slice A n c] w (PLMB n (filY form fu F M (fun k => ab .f32 (wd xs k))) (filM form fu F M (fun k => ab .f32 (wd xs k)) n) true w) := by
  have h1 : inB (form : Int) 0 2 = true := by simp only [inB, Bool.and_eq_true, decide_eq_true_eq]; omega
  have h2 : decide ((n : Int) ≤ 256) = true := decide_eq_true (by omega)
  have HR := Lib.hid fun (V : World) (hs : w.Since w.heap.size V) (hg : FilAt V w.heap.size f) => specRun_any form hform fu w.heap.size f m F M A n c xs V hg hF hM ((hA.since hs).more hs.size) hn
  obtain ⟨b0, b1, b2, a1, a2⟩ := f
  obtain ⟨ma, mb, mc, md⟩ := m
  unfold MemN.val at *
  unfold FilN.val
  clear hA
  go_enter Try.func13, Try.ntmps13
  go_wp2_with fail
  generalize hW1 : World.alloc w _ = W1
  generalize hW2 : World.alloc W1 _ = W2
  generalize hW3 : World.alloc W2 _ = W3
  have z1 : W1.heap.size = w.heap.size + 1 := by rw [← hW1]; simp
  have z2 : W2.heap.size = w.heap.size + 1 + 1 := by rw [← hW2]; simp [z1]
  have z3 : W3.heap.size = w.heap.size + 1 + 1 + 1 := by rw [← hW3]; simp [z2]
  have FA : FilAt W1 w.heap.size ⟨b0, b1, b2, a1, a2⟩ := by rw [← hW1]; exact ⟨by simp, by simp [go_sem], by simp [go_sem], by simp [go_sem], by simp [go_sem], by simp [go_sem]⟩
  have b1_ : MemB 28 W2 (w.heap.size + 1) ⟨ma, mb, mc, md⟩ := by rw [← hW2, ← z1]; exact MemB.new _ _ _ _ _ _
  have b2_ : MemB 28 W3 (w.heap.size + 1 + 1) ⟨0, 0, 0, 0⟩ := by rw [← hW3, ← z2]; exact MemB.new _ _ _ _ _ _
  have s1 : w.Since w.heap.size W1 := by rw [← hW1]; exact (World.Since.refl _ _).alloc (Nat.le_refl _) _
  have s2 : W1.Since W1.heap.size W2 := by rw [← hW2]; exact (World.Since.refl _ _).alloc (Nat.le_refl _) _
  have s3 : W2.Since W2.heap.size W3 := by rw [← hW3]; exact (World.Since.refl _ _).alloc (Nat.le_refl _) _
  have F3 := Lib.hid ((FA.since (since_mono s2 (by omega))).since (since_mono s3 (by omega)))
  have B1 := Lib.hid (b1_.since s3 (by omega))
  have B2 := Lib.hid b2_
  have S3 : Hid (w.Since w.heap.size W3) := Lib.hid ((s1.trans (since_mono s2 (by omega))).trans (since_mono s3 (by omega)))
  clear hW1 hW2 hW3 s1 s2 s3 b1_ b2_ FA z1 z2
  have m0 := B1.out.c0; have m1 := B1.out.c1; have m2 := B1.out.c2; have m3 := B1.out.c3
  go_wp2_with (first | (go_at_call 58; refine (l02Form_any _ _ _ h1).mono ?_; rintro e w' ⟨rfl, rfl⟩) | (go_at_call 59; refine (few_fil _ _ _ _ _ h2).mono ?_; rintro e w' ⟨rfl, rfl⟩))
  refine (HR.out W3 S3.out F3.out).mono ?_
  rintro e w5 ⟨p, cp, ⟨qa, qb, qc, qd⟩, rfl, rfl, hg, ha, hm, hs⟩
  have hg9 := hg; rw [z3] at hg9; have HG := Lib.hid hg9; clear hg9; have HA := Lib.hid ha; have HM := Lib.hid hm
  have E2 := Lib.hid (B2.out.since hs (by omega))
  have S5 := Lib.hid (since_step S3.out hs)
  have hz5 := hs.size
  clear hg ha hm hs m0 m1 m2 m3
  simp only [MemN.val_mk]
  go_wp2_with fail
  generalize hV : World.alloc w5 _ = V
  have N1 : Hid (MemB 28 V w5.heap.size ⟨qa, qb, qc, qd⟩) := Lib.hid (by rw [← hV]; exact MemB.new _ _ _ _ _ _)
  have E3 : Hid (MemB 28 V (w.heap.size + 1 + 1) ⟨0, 0, 0, 0⟩) := Lib.hid (E2.out.since (B := w5.heap.size) (by rw [← hV]; exact (World.Since.refl _ _).alloc (Nat.le_refl _) _) E2.out.lt)
  have GV : Hid (Gs 22 V (w.heap.size + 1 + 1 + 1) p.A p.n p.xs) := Lib.hid (HG.out.since (by rw [← hV]; exact (World.Since.refl _ _).alloc (Nat.le_refl _) _))
  have SV : Hid (w.Since w.heap.size V) := Lib.hid (by rw [← hV]; exact S5.out.alloc S5.out.size _)
  clear hV
  have e0 := E3.out.c0; have e1 := E3.out.c1; have e2 := E3.out.c2; have e3 := E3.out.c3
  have l0 := E3.out.free 0; have l1 := E3.out.free 1; have l2 := E3.out.free 2; have l3 := E3.out.free 3
  have p0 := N1.out.c0; have p1 := N1.out.c1; have p2 := N1.out.c2; have p3 := N1.out.c3
  have OO : Hid (On (w.heap.size + 1 + 1) V (((((V.setCell ⟨w.heap.size + 1 + 1, 0, none⟩ (.float .f32 qa)).setCell ⟨w.heap.size + 1 + 1, 1, none⟩ (.float .f32 qb)).setCell ⟨w.heap.size + 1 + 1, 2, none⟩ (.float .f32 qc)).setCell ⟨w.heap.size + 1 + 1, 3, none⟩ (.float .f32 qd)))) := Lib.hid (((((On.refl _ _).set _ _).set _ _).set _ _).set _ _)
  have NB := Lib.hid (E3.out.set qa qb qc qd)
  go_wp2_with fail
  go_region
  all_goals
    generalize hV2 : World.setCell _ _ _ = V2 at *
    have g0 := NB.out.c0; have g1 := NB.out.c1; have g2 := NB.out.c2; have g3 := NB.out.c3
    go_wp2
    exact bodyPost_ret (v := .tuple #[.slice p.A p.n cp, .agg #[.float .f32 qa, .float .f32 qb, .float .f32 qc, .float .f32 qd], .bool true]) (by simp [results, Try.results13, go_sem, g0, g1, g2, g3]) rfl
      ⟨p, cp, ⟨qa, qb, qc, qd⟩, rfl, rfl, (gs_low GV.out OO.out (by omega)).less (by omega), HA.out, HM.out, by first | exact SV.out.trans (since_mono OO.out.1 (by omega)) | exact since_drewN (SV.out.trans (since_mono OO.out.1 (by omega))) _⟩
theorem specRF_no (form : Int) (fu : Bool) (f : FilN) (m : MemN) (A : Option Addr) (n c : Nat) (w : World) (h : ¬ (inB form 0 2 = true ∧ n ≤ 256)) (G : Nat → O) :
    Calls Try.prog 13 #[f.val, .int .i64 form, .bool fu, m.val, .slice A n c] w (PLMB 0 G noM false w) := by
  obtain ⟨b0, b1, b2, a1, a2⟩ := f
  obtain ⟨ma, mb, mc, md⟩ := m
  unfold FilN.val MemN.val
  have fin : ∀ (V : World) (k : Nat), MemB 28 V k ⟨0, 0, 0, 0⟩ → V.cell? ⟨k, 0, none⟩ = some (.float .f32 0) ∧ V.cell? ⟨k, 1, none⟩ = some (.float .f32 0) ∧ V.cell? ⟨k, 2, none⟩ = some (.float .f32 0) ∧ V.cell? ⟨k, 3, none⟩ = some (.float .f32 0) := fun V k h => ⟨h.c0, h.c1, h.c2, h.c3⟩
  cases h1 : inB form 0 2
  · go_enter Try.func13, Try.ntmps13
    go_wp2_with (go_at_call 58; refine (l02Form_any _ _ _ h1).mono ?_; rintro e w' ⟨rfl, rfl⟩)
    exact bodyPost_ret (v := .tuple #[.slice none 0 0, .agg #[.float .f32 0, .float .f32 0, .float .f32 0, .float .f32 0], .bool false]) (by simp [results, Try.results13, go_sem]) rfl (PLMB.none_ (by (repeat (first | (with_reducible refine Fl.sinDrew ?_) | (with_reducible refine World.Since.drew ?_) | (with_reducible refine Fl.sinSet ?_ ?_; rotate_left) | (with_reducible refine Fl.sinAlloc ?_ ?_; rotate_left) | with_reducible exact World.Since.refl _ _ | with_reducible assumption | (with_reducible refine Fl.sinStep (by with_reducible assumption) ?_))); all_goals (first | omega | (simp; done) | (simp; omega) | (simp [go_sem]; done) | (simp [go_sem]; omega))) _)
  · have h2 : decide ((n : Int) ≤ 256) = false := decide_eq_false fun h3 => h ⟨h1, by omega⟩
    clear h
    go_enter Try.func13, Try.ntmps13
    go_wp2_with (first | (go_at_call 58; refine (l02Form_any _ _ _ h1).mono ?_; rintro e w' ⟨rfl, rfl⟩) | (go_at_call 59; refine (few_fil _ _ _ _ _ h2).mono ?_; rintro e w' ⟨rfl, rfl⟩))
    exact bodyPost_ret (v := .tuple #[.slice none 0 0, .agg #[.float .f32 0, .float .f32 0, .float .f32 0, .float .f32 0], .bool false]) (by simp [results, Try.results13, go_sem]) rfl (PLMB.none_ (by (repeat (first | (with_reducible refine Fl.sinDrew ?_) | (with_reducible refine World.Since.drew ?_) | (with_reducible refine Fl.sinSet ?_ ?_; rotate_left) | (with_reducible refine Fl.sinAlloc ?_ ?_; rotate_left) | with_reducible exact World.Since.refl _ _ | with_reducible assumption | (with_reducible refine Fl.sinStep (by with_reducible assumption) ?_))); all_goals (first | omega | (simp; done) | (simp; omega) | (simp [go_sem]; done) | (simp [go_sem]; omega))) _)
end Go.Proofs.Ytebocaicebolaaa

/- Filters: copies of samples; one filter over samples, the program's. -/
set_option linter.unusedVariables false
set_option linter.unusedSimpArgs false
namespace Go.Proofs.Ytebocaicebolaaa
open Fl Go.RowKit
set_option maxHeartbeats 4000000 in
set_option maxRecDepth 100000 in
theorem clone_any (A : Option Addr) (n c : Nat) (xs : List Nat) (w : World) (hA : Fs w w.heap.size A n xs) (hn : n ≤ 256) :
    Calls Try.prog 68 #[.slice A n c] w fun e w' => ∃ (A' : Option Addr) (c' : Nat) (ys : List Nat), e = .returned (.slice A' n c') ∧ ((A' = none → n = 0 ∧ c' = 0) ∧ ∀ a, A' = some a → ∃ g, a = ⟨g, 0, none⟩) ∧ Gs 22 w' w.heap.size A' n ys ∧ (∀ j, j < n → ab .f32 (wd ys j) = ab .f32 (wd xs j)) ∧ w.Since w.heap.size w' := by
  have hq := fun W => Lib.run_eql_slice_nil W 27 22 A n c 0 0 Try.underlying27
  have HA := Lib.hid hA; clear hA
  cases A with
  | none =>
    obtain rfl : n = 0 := by
      rcases Nat.eq_zero_or_pos n with h | h
      · exact h
      · obtain ⟨g, off, e, _⟩ := HA.out.2.2 h; cases e
    go_enter Try.func68, Try.ntmps68
    go_wp2
    go_ret
    exact ⟨none, 0, [], rfl, ⟨fun _ => by simp, fun a h => by cases h⟩, Gs.nil_, fun j hj => by omega, World.Since.refl _ _⟩
  | some ad =>
    go_enter Try.func68, Try.ntmps68
    go_wp2_with (at_builtin; refine wpList_appN rfl (.tmp 5) (.tmp 6) rfl w.heap.size _ 0 (fun j => ab .f32 (wd xs j)) rfl _ _ _ xs _ rfl (by simp) (Lib.hid (HA.out.since ((World.Since.refl _ _).alloc (Nat.le_refl _) _))) (fun j hj => by rw [Nat.zero_add]) (by omega) (by simp) (Rw.start w _ (Nat.le_refl _) _) ?_; intro v1 wa hRa hSa; have Ha := Lib.hid (((World.Since.refl w.heap.size w).alloc (Nat.le_refl _) _).trans hSa.out); clear hSa; obtain ⟨pA, cq, px, rfl, hcq, hno, hso, hgp, hap⟩ := hRa.out.end_; have HNS := Lib.hid hso; have HNO := Lib.hid hno; have GP := Lib.hid hgp; have AP := Lib.hid hap; clear hgp hap hRa hno hso)
    go_ret
    exact ⟨pA, cq, px, rfl, ⟨fun h => by have := HNO.out h; omega, fun a h => by obtain ⟨g, e, _⟩ := HNS.out a h; exact ⟨g, e⟩⟩, by first | exact GP.out | (have := GP.out; rwa [Nat.zero_add] at this), fun j hj => AP.out j (by first | exact hj | (show j < 0 + n; omega)), Ha.out⟩
theorem Try.infoMem : (Try.prog.info? 28).map (fun i => (i.zero, i.size, i.bytes)) = some (some (.agg #[.float .f32 0, .float .f32 0, .float .f32 0, .float .f32 0]), 4, 16) := by kernel_rfl
theorem make_mem (W : World) : (Instr.makeSlice 51 (.int .i64 1) (.int .i64 1)).run Try.prog W = .ok (.slice (some ⟨W.heap.size, 0, none⟩) 1 1) (W.alloc (.cells #[.float .f32 0, .float .f32 0, .float .f32 0, .float .f32 0] 28)) := by
  obtain ⟨i0, hi, hz0, hz1, hz2⟩ := info_parts Try.infoMem
  have h := run_make (P := Try.prog) W 51 28 i0 _ Try.underlying51 hi hz0 .i64 .i64 1 1 (by omega) (by omega) (by rw [hz2]; decide) (by omega)
  rw [hz1] at h
  have e : madeCells (Value.agg #[.float .f32 0, .float .f32 0, .float .f32 0, .float .f32 0]).cells (Int.toNat 1 * 4) = #[.float .f32 0, .float .f32 0, .float .f32 0, .float .f32 0] := by kernel_rfl
  rw [e] at h
  exact h
set_option maxHeartbeats 8000000 in
set_option maxRecDepth 100000 in
theorem implRFs_one (form : Nat) (hform : form ≤ 2) (fu : Bool) (f : FilN) (m : MemN) (F : Fil) (M : Mem) (A : Option Addr) (n c b1 b2 : Nat) (xs : List Nat) (w : World) (hF : FvF f F) (hM : FvM m M) (hA : Fs w w.heap.size A n xs) (hn : n ≤ 256) (hb1 : FilAt w b1 f) (hb2 : MemB 28 w b2 m) :
    Calls Try.prog 33 #[.slice (some ⟨b1, 0, none⟩) 1 1, .int .i64 (form : Int), .bool fu, .slice (some ⟨b2, 0, none⟩) 1 1, .slice A n c] w fun e w' => ∃ (p : Ls) (c' mg : Nat) (m' : MemN), e = .returned (.tuple #[.slice p.A p.n c', .slice (some ⟨mg, 0, none⟩) 1 1, .bool true]) ∧ p.n = n ∧ Gs 22 w' w.heap.size p.A p.n p.xs ∧ Are p (filY form fu F M (fun k => ab .f32 (wd xs k))) ∧ MemB 28 w' mg m' ∧ FvM m' (filM form fu F M (fun k => ab .f32 (wd xs k)) n) ∧ w.Since w.heap.size w' ∧ (p.A = none → n = 0 ∧ c' = 0) ∧ (∀ a, p.A = some a → ∃ g, a = ⟨g, 0, none⟩) := by
  obtain ⟨kk, hkk, hso⟩ := stepOf_any form hform
  have HSO := Lib.hid hso; clear hso
  have hfew : decide ((n : Int) ≤ 256) = true := decide_eq_true (by omega)
  have HSM : Hid (∀ v, Calls Try.prog 67 #[.slice A n c] v fun e w' => e = .returned (.bool true) ∧ v = w') := Lib.hid fun v => implSamples_b A n c true v hfew
  have HA := Lib.hid hA
  have HB1 := Lib.hid hb1; have HB2 := Lib.hid hb2
  clear hA hb1 hb2 hfew
  go_enter Try.func33, Try.ntmps33
  go_wp2_with (first | (go_at_call 63; refine (HSO.out _).mono ?_; rintro e w' ⟨rfl, rfl⟩) | (go_at_call 67; refine (HSM.out _).mono ?_; rintro e w' ⟨rfl, rfl⟩))
  go_at_call 68
  refine (clone_any A n c xs w HA.out hn).mono ?_
  rintro e w1 ⟨A', c', ys, rfl, hsome, hg, hy, hs⟩
  have G1 := Lib.hid hg; have Y1 := Lib.hid hy; have S1 := Lib.hid hs; have NS := Lib.hid hsome
  clear hg hy hs hsome
  have hmk := make_mem w1
  have z1 := S1.out.size
  go_wp2_with fail
  generalize hW2 : World.alloc w1 _ = w2
  have z2 : w2.heap.size = w1.heap.size + 1 := by rw [← hW2]; simp
  have hs2 : w1.Since w1.heap.size w2 := by rw [← hW2]; exact (World.Since.refl _ _).alloc (Nat.le_refl _) _
  have S2 := Lib.hid (since_step S1.out hs2)
  have N2 : Hid (MemB 28 w2 w1.heap.size ⟨0, 0, 0, 0⟩) := Lib.hid (by rw [← hW2]; exact MemB.new _ _ _ _ _ _)
  have G2 := Lib.hid (G1.out.since hs2)
  have F2 := Lib.hid (HB1.out.since (since_mono S2.out (show b1 + 1 ≤ w.heap.size by have := HB1.out.lt; omega)))
  have M2 := Lib.hid (HB2.out.since S2.out HB2.out.lt)
  clear hW2 hs2 hmk
  have k0 := F2.out.b0; have k1 := F2.out.b1; have k2 := F2.out.b2; have k3 := F2.out.a1; have k4 := F2.out.a2
  refine wp_loop_rounds 2 ?_
  rw [rounds_succ]
  go_wp2_with fail
  generalize hW3 : World.alloc w2 _ = w3
  have z3 : w3.heap.size = w2.heap.size + 1 := by rw [← hW3]; simp
  have hs3 : w2.Since w2.heap.size w3 := by rw [← hW3]; exact (World.Since.refl _ _).alloc (Nat.le_refl _) _
  have FF : Hid (FilAt w3 w2.heap.size f) := Lib.hid (by rw [← hW3]; exact ⟨by simp, by simp [go_sem], by simp [go_sem], by simp [go_sem], by simp [go_sem], by simp [go_sem]⟩)
  have N3 := Lib.hid (N2.out.since hs3 N2.out.lt)
  have M3 := Lib.hid (M2.out.since hs3 M2.out.lt)
  have G3 := Lib.hid (G2.out.since hs3)
  have S3 := Lib.hid (since_step S2.out hs3)
  clear hW3 hs3 k0 k1 k2 k3 k4
  have FF' := FF.out
  rw [z2] at FF'
  have k0 := FF'.b0; have k1 := FF'.b1; have k2 := FF'.b2; have k3 := FF'.a1; have k4 := FF'.a2
  have m0 := M3.out.c0; have m1 := M3.out.c1; have m2 := M3.out.c2; have m3 := M3.out.c3
  have h18 : w1.heap.size + 1 < w3.heap.size := by omega
  have hmg : w1.heap.size < w3.heap.size := by omega
  have hb2 : b2 < w3.heap.size := M3.out.lt
  have hzw : w.heap.size ≤ w3.heap.size := S3.out.size
  -- the run in place
  have run : ∀ V : World, w3.Since w3.heap.size V → Calls Try.prog 65 #[.agg #[.float .f32 f.b0, .float .f32 f.b1, .float .f32 f.b2, .float .f32 f.a1, .float .f32 f.a2, .bool fu], .func (.func kk) #[] #[], .agg #[.float .f32 m.a, .float .f32 m.b, .float .f32 m.c, .float .f32 m.d], .slice A' n c'] V fun e w' => ∃ (ma mb mc md : Nat) (zs : List Nat), e = .returned (.agg #[.float .f32 ma, .float .f32 mb, .float .f32 mc, .float .f32 md]) ∧ FvM ⟨ma, mb, mc, md⟩ (filM form fu F M (fun k => ab .f32 (wd xs k)) n) ∧ Gs 22 w' w.heap.size A' n zs ∧ Are ⟨A', n, zs⟩ (filY form fu F M (fun k => ab .f32 (wd xs k))) ∧ w.Since w.heap.size w' ∧ MemB 28 w' w1.heap.size ⟨0, 0, 0, 0⟩ := fun V hs => by
    have hV := since_step S3.out hs
    have hgV := G3.out.since hs
    by_cases h0 : 0 < n
    · obtain ⟨g, cs, e9, hlg, hbg, _⟩ := G1.out.2.2 h0
      have hg1 : g < w1.heap.size := (Array.getElem?_eq_some_iff.1 hbg).1
      subst e9
      have h9 := implRun_any form kk hkk fu f m F M (some ⟨g, 0, none⟩) n c' g w.heap.size (fun k => ab .f32 (wd xs k)) V hF hM (fun h0 => ⟨rfl, Pr.of hgV h0 fun j hj => Y1.out j hj⟩) hn hV.size
      simp only [MemN.val, setV] at h9
      refine h9.mono fun e w' => ?_
      rintro ⟨⟨ma, mb, mc, md⟩, he, hm, hp, hs2, hfr⟩
      obtain ⟨zs, h1, h2⟩ := (hp h0).done hlg
      exact ⟨ma, mb, mc, md, zs, he, hm, h1, h2, hV.trans hs2, (N3.out.since hs N3.out.lt).of (hfr _ (by have := hs.size; omega) (by omega))⟩
    · have h9 := implRun_any form kk hkk fu f m F M A' n c' (w1.heap.size + 1) w.heap.size (fun k => ab .f32 (wd xs k)) V hF hM (fun h => absurd h h0) hn hV.size
      simp only [MemN.val, setV] at h9
      refine h9.mono fun e w' => ?_
      rintro ⟨⟨ma, mb, mc, md⟩, he, hm, hp, hs2, hfr⟩
      exact ⟨ma, mb, mc, md, [], he, hm, ⟨by simp; omega, (fun x hx => by cases hx), fun h => absurd h h0⟩, (fun j hj => absurd (Nat.lt_of_le_of_lt (Nat.zero_le _) hj) h0), hV.trans hs2, (N3.out.since hs N3.out.lt).of (hfr _ (by have := hs.size; omega) (by omega))⟩
  have RUN := Lib.hid run; clear run FF'
  have HCO := Lib.hid (cellsOf_any m)
  have MEMO := Lib.hid memory_any
  unfold MemN.val at HCO MEMO
  go_region_with (first
    | (go_at_call 73; refine (HCO.out _).mono ?_; rintro e w4 ⟨rfl, hs⟩; (try replace hs := sinUD hs); obtain ⟨hc4, hf4⟩ := Fl.sinCell hs; have T4 := Lib.hid hs; clear hs)
    | (go_at_call 65; refine (RUN.out _ T4.out).mono ?_; rintro e w5 ⟨ma, mb, mc, md, zs, rfl, hm, hg, ha, hs, hmb⟩; have M5 := Lib.hid hm; have G5 := Lib.hid hg; have A5 := Lib.hid ha; have T5 := Lib.hid hs; have N5 := Lib.hid hmb; clear hm hg ha hs hmb)
    | (go_at_call 75; refine (MEMO.out ⟨ma, mb, mc, md⟩ _).mono ?_; rintro e w6 ⟨rfl, hs⟩; (try replace hs := sinUD hs); have N6 := Lib.hid (N5.out.since hs N5.out.lt); have G6 := Lib.hid (G5.out.since hs); have T6 := Lib.hid (since_step T5.out hs); clear hs; have e0 := N6.out.c0; have e1 := N6.out.c1; have e2 := N6.out.c2; have e3 := N6.out.c3; have l0 := N6.out.free 0; have l1 := N6.out.free 1; have l2 := N6.out.free 2; have l3 := N6.out.free 3))
  all_goals
    have OO : Hid (On w1.heap.size w6 (((((w6.setCell ⟨w1.heap.size, 0, none⟩ (.float .f32 ma)).setCell ⟨w1.heap.size, 1, none⟩ (.float .f32 mb)).setCell ⟨w1.heap.size, 2, none⟩ (.float .f32 mc)).setCell ⟨w1.heap.size, 3, none⟩ (.float .f32 md)))) := Lib.hid (((((On.refl _ _).set _ _).set _ _).set _ _).set _ _)
    have NB := Lib.hid (N6.out.set ma mb mc md)
    have GV : Hid (Gs 22 (((((w6.setCell ⟨w1.heap.size, 0, none⟩ (.float .f32 ma)).setCell ⟨w1.heap.size, 1, none⟩ (.float .f32 mb)).setCell ⟨w1.heap.size, 2, none⟩ (.float .f32 mc)).setCell ⟨w1.heap.size, 3, none⟩ (.float .f32 md))) w.heap.size A' n zs) := Lib.hid (by
      by_cases h0 : 0 < n
      · obtain ⟨g, cs, e9, hlg, hbg, _⟩ := G1.out.2.2 h0
        have hg1 : g < w1.heap.size := (Array.getElem?_eq_some_iff.1 hbg).1
        exact Gs.on G6.out OO.out (fun s t h => by rw [e9] at h; injection h with h; injection h with h _ _; omega)
      · exact ⟨G6.out.1, G6.out.2.1, fun h => absurd h h0⟩)
    have SV := Lib.hid (T6.out.trans (since_mono OO.out.1 z1))
    generalize hV : World.setCell _ _ _ = V at *
    clear hV k0 k1 k2 k3 k4 m0 m1 m2 m3 e0 e1 e2 e3 l0 l1 l2 l3
    go_wp2_with fail
    rw [rounds_succ]
    go_wp2_with fail
    go_ret3
    exact ⟨⟨A', n, zs⟩, c', w1.heap.size, ⟨ma, mb, mc, md⟩, rfl, rfl, GV.out, A5.out, NB.out, M5.out, SV.out, NS.out.1, NS.out.2⟩
end Go.Proofs.Ytebocaicebolaaa

/- Filters: RunFilter, the program's; what fails. -/
set_option linter.unusedVariables false
set_option linter.unusedSimpArgs false
namespace Go.Proofs.Ytebocaicebolaaa
open Fl Go.RowKit
theorem implRFs_no (form : Int) (fu : Bool) (A : Option Addr) (n c b1 b2 : Nat) (w : World) (h : ¬ (inB form 0 2 = true ∧ n ≤ 256)) :
    Calls Try.prog 33 #[.slice (some ⟨b1, 0, none⟩) 1 1, .int .i64 form, .bool fu, .slice (some ⟨b2, 0, none⟩) 1 1, .slice A n c] w fun e w' => e = .returned (.tuple #[.slice none 0 0, .slice none 0 0, .bool false]) ∧ w.Since w.heap.size w' := by
  cases h1 : inB form 0 2
  · go_enter Try.func33, Try.ntmps33
    go_wp2_with (go_at_call 63; refine (stepOf_out _ _ h1).mono ?_; rintro e w' ⟨rfl, rfl⟩)
    go_ret3
    exact ⟨rfl, by (repeat (first | (with_reducible refine Fl.sinDrew ?_) | (with_reducible refine World.Since.drew ?_) | (with_reducible refine Fl.sinSet ?_ ?_; rotate_left) | (with_reducible refine Fl.sinAlloc ?_ ?_; rotate_left) | with_reducible exact World.Since.refl _ _ | with_reducible assumption | (with_reducible refine Fl.sinStep (by with_reducible assumption) ?_))); all_goals (first | omega | (simp; done) | (simp; omega) | (simp [go_sem]; done) | (simp [go_sem]; omega))⟩
  · have h2 : decide ((n : Int) ≤ 256) = false := decide_eq_false fun h3 => h ⟨h1, by omega⟩
    have HSM : Hid (∀ v, Calls Try.prog 67 #[.slice A n c] v fun e w' => e = .returned (.bool false) ∧ v = w') := Lib.hid fun v => implSamples_b A n c false v h2
    clear h h2
    simp only [inB, Bool.and_eq_true, decide_eq_true_eq] at h1
    obtain ⟨form, rfl⟩ := Int.eq_ofNat_of_zero_le h1.1
    obtain ⟨kk, _, hso⟩ := stepOf_any form (by omega)
    have HSO := Lib.hid hso; clear hso
    go_enter Try.func33, Try.ntmps33
    go_wp2_with (first | (go_at_call 63; refine (HSO.out _).mono ?_; rintro e w' ⟨rfl, rfl⟩) | (go_at_call 67; refine (HSM.out _).mono ?_; rintro e w' ⟨rfl, rfl⟩))
    go_ret3
    exact ⟨rfl, by (repeat (first | (with_reducible refine Fl.sinDrew ?_) | (with_reducible refine World.Since.drew ?_) | (with_reducible refine Fl.sinSet ?_ ?_; rotate_left) | (with_reducible refine Fl.sinAlloc ?_ ?_; rotate_left) | with_reducible exact World.Since.refl _ _ | with_reducible assumption | (with_reducible refine Fl.sinStep (by with_reducible assumption) ?_))); all_goals (first | omega | (simp; done) | (simp; omega) | (simp [go_sem]; done) | (simp [go_sem]; omega))⟩
/-- a list in a block of its own, or none, and a memory -/
def PLMBo (n0 : Nat) (f0 : Nat → O) (M : Mem) (b : Bool) (w : World) (e : Ending) (w' : World) : Prop :=
  ∃ (p : Ls) (c : Nat) (m : MemN), e = .returned (.tuple #[.slice p.A p.n c, m.val, .bool b]) ∧ p.n = n0 ∧ Gs 22 w' w.heap.size p.A p.n p.xs ∧ Are p f0 ∧ FvM m M ∧ w.Since w.heap.size w' ∧ (p.A = none → n0 = 0 ∧ c = 0) ∧ (∀ a, p.A = some a → ∃ g, a = ⟨g, 0, none⟩)
set_option maxHeartbeats 8000000 in
set_option maxRecDepth 100000 in
theorem implRF_own (form : Nat) (hform : form ≤ 2) (fu : Bool) (f : FilN) (m : MemN) (F : Fil) (M : Mem) (A : Option Addr) (n c : Nat) (xs : List Nat) (w : World) (hF : FvF f F) (hM : FvM m M) (hA : Fs w w.heap.size A n xs) (hn : n ≤ 256) :
    Calls Try.prog 17 #[f.val, .int .i64 (form : Int), .bool fu, m.val, .slice A n c] w (PLMBo n (filY form fu F M (fun k => ab .f32 (wd xs k))) (filM form fu F M (fun k => ab .f32 (wd xs k)) n) true w) := by
  have HR := Lib.hid fun (V : World) (b1 b2 : Nat) (hs : w.Since w.heap.size V) (hg : FilAt V b1 f) (hm : MemB 28 V b2 m) => implRFs_one form hform fu f m F M A n c b1 b2 xs V hF hM ((hA.since hs).more hs.size) hn hg hm
  obtain ⟨b0, b1, b2, a1, a2⟩ := f
  obtain ⟨ma, mb, mc, md⟩ := m
  unfold MemN.val at *
  unfold FilN.val
  clear hA
  go_enter Try.func17, Try.ntmps17
  go_wp2_with fail
  generalize hW1 : World.alloc w _ = W1
  generalize hW2 : World.alloc W1 _ = W2
  generalize hW3 : World.alloc W2 _ = W3
  generalize hW4 : World.alloc W3 _ = W4
  generalize hW5 : World.alloc W4 _ = W5
  have z1 : W1.heap.size = w.heap.size + 1 := by rw [← hW1]; simp
  have z2 : W2.heap.size = w.heap.size + 1 + 1 := by rw [← hW2]; simp [z1]
  have z3 : W3.heap.size = w.heap.size + 1 + 1 + 1 := by rw [← hW3]; simp [z2]
  have z4 : W4.heap.size = w.heap.size + 1 + 1 + 1 + 1 := by rw [← hW4]; simp [z3]
  have s1 : w.Since w.heap.size W1 := by rw [← hW1]; exact (World.Since.refl _ _).alloc (Nat.le_refl _) _
  have s2 : W1.Since W1.heap.size W2 := by rw [← hW2]; exact (World.Since.refl _ _).alloc (Nat.le_refl _) _
  have s3 : W2.Since W2.heap.size W3 := by rw [← hW3]; exact (World.Since.refl _ _).alloc (Nat.le_refl _) _
  have s4 : W3.Since W3.heap.size W4 := by rw [← hW4]; exact (World.Since.refl _ _).alloc (Nat.le_refl _) _
  have s5 : W4.Since W4.heap.size W5 := by rw [← hW5]; exact (World.Since.refl _ _).alloc (Nat.le_refl _) _
  have z5 : W5.heap.size = w.heap.size + 1 + 1 + 1 + 1 + 1 := by rw [← hW5]; simp [z4]
  have S5 : Hid (w.Since w.heap.size W5) := Lib.hid (((((s1.trans (since_mono s2 (by omega))).trans (since_mono s3 (by omega))).trans (since_mono s4 (by omega))).trans (since_mono s5 (by omega))))
  have FA : FilAt W4 (w.heap.size + 1 + 1 + 1) ⟨b0, b1, b2, a1, a2⟩ := by rw [← hW4, ← z3]; exact ⟨by simp, by simp [go_sem], by simp [go_sem], by simp [go_sem], by simp [go_sem], by simp [go_sem]⟩
  have F5 := Lib.hid (FA.since (since_mono s5 (by omega)))
  have M5 : Hid (MemB 28 W5 (w.heap.size + 1 + 1 + 1 + 1) ⟨ma, mb, mc, md⟩) := Lib.hid (by rw [← hW5, ← z4]; exact MemB.new _ _ _ _ _ _)
  have B3 : MemB 28 W3 (w.heap.size + 1 + 1) ⟨0, 0, 0, 0⟩ := by rw [← hW3, ← z2]; exact MemB.new _ _ _ _ _ _
  have B5 := Lib.hid ((B3.since s4 (by omega)).since s5 (by omega))
  clear hW1 hW2 hW3 hW4 hW5 s1 s2 s3 s4 s5 FA B3 z1 z2 z3 z4
  refine (HR.out W5 _ _ S5.out F5.out M5.out).mono ?_
  rintro e w6 ⟨p, c', mg, ⟨qa, qb, qc, qd⟩, rfl, rfl, hg, ha, hn6, hm, hs, hno, hso⟩
  have hg9 := hg; rw [z5] at hg9
  have G6 := Lib.hid hg9; have A6 := Lib.hid ha; have N6 := Lib.hid hn6; have M6 := Lib.hid hm; have S6 := Lib.hid (since_step S5.out hs)
  have E6 := Lib.hid (B5.out.since hs (by omega))
  have NO := Lib.hid hno; have NS := Lib.hid hso
  clear hg hg9 ha hn6 hm hs hno hso
  go_wp2_with fail
  have e0 := E6.out.c0; have e1 := E6.out.c1; have e2 := E6.out.c2; have e3 := E6.out.c3
  have l0 := E6.out.free 0; have l1 := E6.out.free 1; have l2 := E6.out.free 2; have l3 := E6.out.free 3
  have p0 := N6.out.c0; have p1 := N6.out.c1; have p2 := N6.out.c2; have p3 := N6.out.c3
  have OO : Hid (On (w.heap.size + 1 + 1) w6 (((((w6.setCell ⟨w.heap.size + 1 + 1, 0, none⟩ (.float .f32 qa)).setCell ⟨w.heap.size + 1 + 1, 1, none⟩ (.float .f32 qb)).setCell ⟨w.heap.size + 1 + 1, 2, none⟩ (.float .f32 qc)).setCell ⟨w.heap.size + 1 + 1, 3, none⟩ (.float .f32 qd)))) := Lib.hid (((((On.refl _ _).set _ _).set _ _).set _ _).set _ _)
  have NB := Lib.hid (E6.out.set qa qb qc qd)
  go_region
  all_goals
    generalize hV2 : World.setCell _ _ _ = V2 at *
    have g0 := NB.out.c0; have g1 := NB.out.c1; have g2 := NB.out.c2; have g3 := NB.out.c3
    go_wp2
    exact bodyPost_ret (v := .tuple #[.slice p.A p.n c', .agg #[.float .f32 qa, .float .f32 qb, .float .f32 qc, .float .f32 qd], .bool true]) (by simp [results, Try.results17, go_sem, g0, g1, g2, g3]) rfl
      ⟨p, c', ⟨qa, qb, qc, qd⟩, rfl, rfl, (gs_low G6.out OO.out (by omega)).less (by omega), A6.out, M6.out, by first | exact S6.out.trans (since_mono OO.out.1 (by omega)) | exact since_drewN (S6.out.trans (since_mono OO.out.1 (by omega))) _, NO.out, NS.out⟩
theorem implRF_ok (form : Nat) (hform : form ≤ 2) (fu : Bool) (f : FilN) (m : MemN) (F : Fil) (M : Mem) (A : Option Addr) (n c : Nat) (xs : List Nat) (w : World) (hF : FvF f F) (hM : FvM m M) (hA : Fs w w.heap.size A n xs) (hn : n ≤ 256) :
    Calls Try.prog 17 #[f.val, .int .i64 (form : Int), .bool fu, m.val, .slice A n c] w (PLMB n (filY form fu F M (fun k => ab .f32 (wd xs k))) (filM form fu F M (fun k => ab .f32 (wd xs k)) n) true w) :=
  (implRF_own form hform fu f m F M A n c xs w hF hM hA hn).mono fun e w' ⟨p, c, m, h1, h2, h3, h4, h5, h6, _⟩ => ⟨p, c, m, h1, h2, h3, h4, h5, h6⟩
set_option maxHeartbeats 8000000 in
set_option maxRecDepth 100000 in
theorem implRF_no (form : Int) (fu : Bool) (f : FilN) (m : MemN) (A : Option Addr) (n c : Nat) (w : World) (h : ¬ (inB form 0 2 = true ∧ n ≤ 256)) (G : Nat → O) :
    Calls Try.prog 17 #[f.val, .int .i64 form, .bool fu, m.val, .slice A n c] w (PLMB 0 G noM false w) := by
  have HR := Lib.hid fun (V : World) (b1 b2 : Nat) => implRFs_no form fu A n c b1 b2 V h
  clear h
  obtain ⟨b0, b1, b2, a1, a2⟩ := f
  obtain ⟨ma, mb, mc, md⟩ := m
  unfold FilN.val MemN.val
  go_enter Try.func17, Try.ntmps17
  go_wp2_with fail
  generalize hW1 : World.alloc w _ = W1
  generalize hW2 : World.alloc W1 _ = W2
  generalize hW3 : World.alloc W2 _ = W3
  generalize hW4 : World.alloc W3 _ = W4
  generalize hW5 : World.alloc W4 _ = W5
  have z1 : W1.heap.size = w.heap.size + 1 := by rw [← hW1]; simp
  have z2 : W2.heap.size = w.heap.size + 1 + 1 := by rw [← hW2]; simp [z1]
  have z3 : W3.heap.size = w.heap.size + 1 + 1 + 1 := by rw [← hW3]; simp [z2]
  have z4 : W4.heap.size = w.heap.size + 1 + 1 + 1 + 1 := by rw [← hW4]; simp [z3]
  have s1 : w.Since w.heap.size W1 := by rw [← hW1]; exact (World.Since.refl _ _).alloc (Nat.le_refl _) _
  have s2 : W1.Since W1.heap.size W2 := by rw [← hW2]; exact (World.Since.refl _ _).alloc (Nat.le_refl _) _
  have s3 : W2.Since W2.heap.size W3 := by rw [← hW3]; exact (World.Since.refl _ _).alloc (Nat.le_refl _) _
  have s4 : W3.Since W3.heap.size W4 := by rw [← hW4]; exact (World.Since.refl _ _).alloc (Nat.le_refl _) _
  have s5 : W4.Since W4.heap.size W5 := by rw [← hW5]; exact (World.Since.refl _ _).alloc (Nat.le_refl _) _
  have z5 : W5.heap.size = w.heap.size + 1 + 1 + 1 + 1 + 1 := by rw [← hW5]; simp [z4]
  have S5 : Hid (w.Since w.heap.size W5) := Lib.hid (((((s1.trans (since_mono s2 (by omega))).trans (since_mono s3 (by omega))).trans (since_mono s4 (by omega))).trans (since_mono s5 (by omega))))
  have B3 : MemB 28 W3 (w.heap.size + 1 + 1) ⟨0, 0, 0, 0⟩ := by rw [← hW3, ← z2]; exact MemB.new _ _ _ _ _ _
  have B5 := Lib.hid ((B3.since s4 (by omega)).since s5 (by omega))
  clear hW1 hW2 hW3 hW4 hW5 s1 s2 s3 s4 s5 B3 z1 z2 z3 z4
  refine (HR.out W5 _ _).mono ?_
  rintro e w6 ⟨rfl, hs⟩
  have S6 := Lib.hid (since_step S5.out hs)
  have E6 := Lib.hid (B5.out.since hs (by omega))
  clear hs
  have e0 := E6.out.c0; have e1 := E6.out.c1; have e2 := E6.out.c2; have e3 := E6.out.c3
  have l0 := E6.out.free 0; have l1 := E6.out.free 1; have l2 := E6.out.free 2; have l3 := E6.out.free 3
  have OO : Hid (On (w.heap.size + 1 + 1) w6 (((((w6.setCell ⟨w.heap.size + 1 + 1, 0, none⟩ (.float .f32 0)).setCell ⟨w.heap.size + 1 + 1, 1, none⟩ (.float .f32 0)).setCell ⟨w.heap.size + 1 + 1, 2, none⟩ (.float .f32 0)).setCell ⟨w.heap.size + 1 + 1, 3, none⟩ (.float .f32 0)))) := Lib.hid (((((On.refl _ _).set _ _).set _ _).set _ _).set _ _)
  have NB := Lib.hid (E6.out.set 0 0 0 0)
  go_wp2_with fail
  generalize hV2 : World.setCell _ _ _ = V2 at *
  have g0 := NB.out.c0; have g1 := NB.out.c1; have g2 := NB.out.c2; have g3 := NB.out.c3
  exact bodyPost_ret (v := .tuple #[.slice none 0 0, .agg #[.float .f32 0, .float .f32 0, .float .f32 0, .float .f32 0], .bool false]) (by simp [results, Try.results17, go_sem, g0, g1, g2, g3]) rfl (PLMB.none_ (S6.out.trans (since_mono OO.out.1 (by omega))) _)
end Go.Proofs.Ytebocaicebolaaa

/- The steps of a walk by Lk. -/
set_option linter.unusedVariables false
set_option linter.unusedSimpArgs false
namespace Go.Proofs.Ytebocaicebolaaa
namespace Lk
open Fl Ieee
def pureOp (o : Oper) : Bool :=
  match o.op with
  | .move _ | .assign _ | .pick .. | .build .. | .load .. | .binOp .. | .unOp .. | .convert .. | .field .. | .index .. | .extract .. | .fieldAddr .. | .indexAddr .. | .makeInterface .. | .makeFunc .. | .slice .. | .sliceToArrayPointer .. => true
  | _ => false
theorem v_no_enter {P : Program} {s : Sem Value} {w w' : World} {f : FuncId} {args : Array Value} (h : (do pure (Next.value (← s)) : Sem Next).run P w = .ok (.enter f args) w') : False := by
  simp only [Sem.run_bind] at h
  cases hs : s.run P w with
  | ok a w2 => rw [hs] at h; simp [Result.andThen] at h
  | halt x w2 => rw [hs] at h; simp [Result.andThen] at h
theorem pure_no_enter {P : Program} {ρ : Operand → Value} {o : Oper} (h : pureOp o = true) {w w' : World} {f : FuncId} {args : Array Value} (e : (execOp ρ o).run P w = .ok (.enter f args) w') : False := by
  unfold pureOp at h
  unfold execOp at e
  cases ho : o.op <;> rw [ho] at h e <;> simp only at h e <;> first | (cases h; done) | exact v_no_enter e | (simp [Sem.run_pure] at e; done) | (simp only [Sem.run_bind, Sem.run_pure] at e; revert e; generalize Sem.run P _ w = r; intro e; cases r <;> simp [Result.andThen] at e; done) | skip
def avoidK (A : Fa) (o : Oper) : Bool := (o.op.operands.toList.all fun x => match x with | .tmp t => (A.κ t).isNone | _ => true) && (match o.op with | .select .. => false | _ => true)
theorem looks_op {ops : Array Oper} {o : Oper} {t : Nat} (h : (.tmp t : Operand) ∈ o.op.operands) : t ∈ o.looksAt ops := List.mem_append_left _ (List.mem_filterMap.2 ⟨.tmp t, by simpa using h, rfl⟩)
theorem eval_avoidK {ops : Array Oper} {N : Nat} {A : Fa} {b : Act} {fp : Nat → Fp} {w : World} {o : Oper} (hR : ∀ i ∈ o.looksAt ops, R N A i b fp w) (ho : avoidK A o = true) : execOp b.eval o = execOp A.a.eval o := by
  unfold avoidK at ho
  rw [Bool.and_eq_true] at ho
  refine execOp_congr o (fun cs bb e => by rw [e] at ho; simp at ho) fun x hx => ?_
  have h1 := List.all_eq_true.1 ho.1 x (by simpa using hx)
  cases x with
  | tmp t =>
    simp only at h1
    have hk : A.κ t = none := by simpa using h1
    exact (hR t (looks_op hx)).none_ hk
  | const v => rfl
  | global g => rfl
  | func f => rfl
/-- arguments, those that are known by their properties alone as they are -/
theorem args_eq {ops : Array Oper} {N : Nat} {A : Fa} {b : Act} {fp : Nat → Fp} {w : World} {o : Oper} (hR : ∀ i ∈ o.looksAt ops, R N A i b fp w) {xs : List Operand} (hx : ∀ x ∈ xs, x ∈ o.op.operands) :
    xs.map b.eval = xs.map fun x => match x with | .tmp t => (match A.κ t with | some _ => b.tmps.getD t undef | none => A.a.tmps.getD t undef) | y => A.a.eval y := by
  refine List.map_congr_left fun x hxx => ?_
  cases x with
  | tmp t =>
    simp only
    cases hk : A.κ t with
    | none => exact (hR t (looks_op (hx _ hxx))).none_ hk
    | some K => rfl
  | const v => rfl
  | global g => rfl
  | func f => rfl
section
variable {P : Program} {ops : Array Oper} {w0 : World} {Q : Fa → Prop} {A : Fa} {o : Oper} {rest : List Oper}
theorem wpK_nil (h : Q A) : wpK P ops w0 Q [] A := h
theorem wpK_of_loose {e : Ef} (hg : o.guard = none) (h : loose P ops w0 o A e) (hK : wpK P ops w0 Q rest (A.put o.dst e)) : wpK P ops w0 Q (o :: rest) A := by
  unfold wpK
  rw [if_pos (Lo.wanted_none hg _)]
  exact ⟨e, h, hK⟩
/-- an operation that looks at known slots alone, and leaves the world -/
theorem wpK_quiet (hg : o.guard = none) (ho : avoidK A o = true) (hp : pureOp o = true) (h : ∀ K : Act → Prop, (∀ a, wpK P ops w0 Q rest ⟨a, k1 A o.dst (.v undef)⟩ → K a) → o.quiet P A.a (fun v => w0.Since w0.heap.size v) K) : wpK P ops w0 Q (o :: rest) A := by
  obtain ⟨v, h1, h2⟩ := h (fun a => wpK P ops w0 Q rest ⟨a, k1 A o.dst (.v undef)⟩) (fun _ h => h)
  refine wpK_of_loose (e := ev v) hg ⟨fun q hq => (by cases hq), fun b fp w hw hN _ hR => ?_⟩ h2
  rw [eval_avoidK hR ho]
  have h3 := h1 w hw
  unfold Oper.quietAt at h3
  generalize hr : (execOp A.a.eval o).run P w = r at h3
  cases r with
  | ok n w2 =>
    cases n <;> simp only [Oper.quietUpon] at h3 <;> simp only [upon]
    case value u => obtain ⟨rfl, rfl⟩ := h3; exact ⟨rfl, World.Since.refl _ _⟩
    case skip => obtain ⟨rfl, rfl⟩ := h3; exact ⟨rfl, World.Since.refl _ _⟩
    case enter f args => exact absurd hr (fun h => pure_no_enter hp h)
  | halt x w2 => simp only [Oper.quietUpon] at h3
/-- an operation whose run is told -/
theorem wpK_told (hg : o.guard = none) (ho : avoidK A o = true) (v : Value) (hrun : ∀ w, w0.Since w0.heap.size w → w0.heap.size ≤ w.heap.size → ∃ w', (execOp A.a.eval o).run P w = .ok (.value v) w' ∧ w.Since w.heap.size w') (hK : wpK P ops w0 Q rest (A.put o.dst (ev v))) : wpK P ops w0 Q (o :: rest) A := by
  refine wpK_of_loose (e := ev v) hg ⟨fun q hq => (by cases hq), fun b fp w hw hN _ hR => ?_⟩ hK
  rw [eval_avoidK hR ho]
  obtain ⟨w', e, hs⟩ := hrun w hw hN
  rw [e]
  exact ⟨rfl, hs⟩
/-- a slot that is known by its properties alone, moved -/
theorem wpK_copy (hg : o.guard = none) (s : Nat) (hop : o.op = .move (.tmp s) ∨ o.op = .assign (.tmp s)) (K : Kd) (hk : A.κ s = some K) (hb : K.bx = false) (hK : wpK P ops w0 Q rest (A.put o.dst ⟨.k K, none⟩)) : wpK P ops w0 Q (o :: rest) A := by
  refine wpK_of_loose (e := ⟨.k K, none⟩) hg ⟨fun q hq => (by cases hq), fun b fp w hw hN _ hR => ?_⟩ hK
  have hm : s ∈ o.looksAt ops := looks_op (by rcases hop with h | h <;> rw [h] <;> simp [Op.operands])
  have h := (hR s hm).some_ hk
  have e : (execOp b.eval o).run P w = .ok (.value (b.tmps.getD s undef)) w := by
    rcases hop with h | h
    · exact BigFrame.run_move (.tmp s) h w
    · exact BigFrame.run_assign (.tmp s) h w
  rw [e]
  exact ⟨⟨h.2.1, fp s, h.2.2.1, (fun h2 => by rw [hb] at h2; cases h2), fun g hg => ⟨h.2.2.2.1 g hg, .inr (.inr ⟨s, K, hm, hk, hb, hg⟩)⟩⟩, World.Since.refl _ _⟩
theorem run_extract {ρ : Operand → Value} {s ix : Nat} (hop : o.op = .extract (.tmp s) ix) {vs : Array Value} {z : Value} (hv : ρ (.tmp s) = .tuple vs) (hz : vs[ix]? = some z) (w : World) : (execOp ρ o).run P w = .ok (.value z) w := by
  simp [execOp, hop, hv, Instr.extract, hz, Result.andThen]
theorem wpK_extract (hg : o.guard = none) (s ix : Nat) (hop : o.op = .extract (.tmp s) ix) (K K2 : Kd) (hk : A.κ s = some K) (hb : K.bx = false) (hb2 : K2.bx = false) (hex : ∀ u S w, K.p u S w → ∃ vs z, u = .tuple vs ∧ vs[ix]? = some z ∧ nb z ∧ K2.p z S w)
    (hK : wpK P ops w0 Q rest (A.put o.dst ⟨.k K2, none⟩)) : wpK P ops w0 Q (o :: rest) A := by
  refine wpK_of_loose (e := ⟨.k K2, none⟩) hg ⟨fun q hq => (by cases hq), fun b fp w hw hN _ hR => ?_⟩ hK
  have hm : s ∈ o.looksAt ops := looks_op (by rw [hop]; simp [Op.operands])
  have h := (hR s hm).some_ hk
  obtain ⟨vs, z, e1, e2, hz, h2⟩ := hex _ _ _ h.2.2.1
  rw [run_extract (P := P) (ρ := b.eval) hop e1 e2 w]
  exact ⟨⟨hz, fp s, h2, (fun h2 => by rw [hb2] at h2; cases h2), fun g hg => ⟨h.2.2.2.1 g hg, .inr (.inr ⟨s, K, hm, hk, hb, hg⟩)⟩⟩, World.Since.refl _ _⟩
theorem wpK_extractV (hg : o.guard = none) (s ix : Nat) (hop : o.op = .extract (.tmp s) ix) (K : Kd) (hk : A.κ s = some K) (z : Value) (hex : ∀ u S w, K.p u S w → ∃ vs, u = .tuple vs ∧ vs[ix]? = some z)
    (hK : wpK P ops w0 Q rest (A.put o.dst (ev z))) : wpK P ops w0 Q (o :: rest) A := by
  refine wpK_of_loose (e := ev z) hg ⟨fun q hq => (by cases hq), fun b fp w hw hN _ hR => ?_⟩ hK
  have hm : s ∈ o.looksAt ops := looks_op (by rw [hop]; simp [Op.operands])
  have h := (hR s hm).some_ hk
  obtain ⟨vs, e1, e2⟩ := hex _ _ _ h.2.2.1
  rw [run_extract (P := P) (ρ := b.eval) hop e1 e2 w]
  exact ⟨rfl, World.Since.refl _ _⟩
theorem run_enter {ρ : Operand → Value} {f : FuncId} {xs : List Operand} {tys : Array TypeId} (hop : o.op = Op.call ⟨.value (.func f), xs.toArray, tys⟩) (hf : ρ (.func f) = .func (.func f) #[] #[]) (henter : ∀ args w2, (callFunc f args).run P w2 = .ok (.enter f args) w2) (w : World) : (execOp ρ o).run P w = .ok (.enter f (xs.map ρ).toArray) w := by
  simp [execOp, hop, resolve, hf, invoke, Deferred.ofValue, henter, Result.andThen]
/-- a call whose result is known by its properties -/
theorem wpK_call (hg : o.guard = none) (f : FuncId) (xs : List Operand) (tys : Array TypeId) (hop : o.op = Op.call ⟨.value (.func f), xs.toArray, tys⟩) (henter : ∀ args w2, (callFunc f args).run P w2 = .ok (.enter f args) w2) (K : Kd) (hb : K.bx = false)
    (hc : ∀ b fp w, w0.Since w0.heap.size w → w0.heap.size ≤ w.heap.size → (∀ i ∈ o.looksAt ops, R w0.heap.size A i b fp w) → Calls P f (xs.map b.eval).toArray w fun e2 w2 => ∃ u S, e2 = .returned u ∧ nb u ∧ K.p u S w2 ∧ w.Since w.heap.size w2 ∧ ∀ g, S g → w.heap.size ≤ g ∧ g < w2.heap.size)
    (hK : wpK P ops w0 Q rest (A.put o.dst ⟨.k K, none⟩)) : wpK P ops w0 Q (o :: rest) A := by
  refine wpK_of_loose (e := ⟨.k K, none⟩) hg ⟨fun q hq => (by cases hq), fun b fp w hw hN _ hR => ?_⟩ hK
  rw [run_enter (P := P) hop rfl henter w]
  exact (hc b fp w hw hN hR).mono fun e2 w2 ⟨u, S, he, h1, h2, h3, h4⟩ => ⟨u, he, ⟨h1, S, h2, (fun h => by rw [hb] at h; cases h), fun g hg => ⟨(h4 g hg).2, .inl (h4 g hg).1⟩⟩, h3⟩
/-- a call with one known result -/
theorem wpK_callV (hg : o.guard = none) (f : FuncId) (xs : List Operand) (tys : Array TypeId) (hop : o.op = Op.call ⟨.value (.func f), xs.toArray, tys⟩) (henter : ∀ args w2, (callFunc f args).run P w2 = .ok (.enter f args) w2) (z : Value)
    (hc : ∀ b fp w, w0.Since w0.heap.size w → w0.heap.size ≤ w.heap.size → (∀ i ∈ o.looksAt ops, R w0.heap.size A i b fp w) → Calls P f (xs.map b.eval).toArray w fun e2 w2 => e2 = .returned z ∧ w.Since w.heap.size w2)
    (hK : wpK P ops w0 Q rest (A.put o.dst (ev z))) : wpK P ops w0 Q (o :: rest) A := by
  refine wpK_of_loose (e := ev z) hg ⟨fun q hq => (by cases hq), fun b fp w hw hN _ hR => ?_⟩ hK
  rw [run_enter (P := P) hop rfl henter w]
  exact (hc b fp w hw hN hR).mono fun e2 w2 ⟨he, h3⟩ => ⟨z, he, rfl, h3⟩
/-- a box of the statement's own -/
def bxP (T : TypeId) (Pc : List Value → Prop) (u : Value) (S : Fp) (w : World) : Prop := ∃ (g : Nat) (cs : List Value), u = .pointer (some ⟨g, 0, none⟩) ∧ (∀ k, S k ↔ k = g) ∧ w.heap[g]? = some (.cells cs.toArray T (0, 0)) ∧ Pc cs
def bxK (T : TypeId) (Pc : List Value → Prop) : Kd where
  p := bxP T Pc
  stable := fun u S w w' h hp => by
    obtain ⟨g, cs, e, hS, hb, hc⟩ := hp
    exact ⟨g, cs, e, hS, (h g ((hS g).2 rfl)).trans hb, hc⟩
  bx := true
theorem wpK_alloc (hg : o.guard = none) (elem : TypeId) (hop : o.op = .alloc elem) (T : TypeId) (cs : List Value) (hrun : ∀ w : World, (Instr.alloc elem true (.tuple #[])).run P w = .ok (.pointer (some ⟨w.heap.size, 0, none⟩)) (w.alloc (.cells cs.toArray T)))
    (hK : wpK P ops w0 Q rest (A.put o.dst ⟨.k (bxK T (· = cs)), none⟩)) : wpK P ops w0 Q (o :: rest) A := by
  refine wpK_of_loose (e := ⟨.k (bxK T (· = cs)), none⟩) hg ⟨fun q hq => (by cases hq), fun b fp w hw hN _ hR => ?_⟩ hK
  have e : (execOp b.eval o).run P w = .ok (.value (.pointer (some ⟨w.heap.size, 0, none⟩))) (w.alloc (.cells cs.toArray T)) := by
    simp [execOp, hop, hrun, Result.andThen]
  rw [e]
  refine ⟨⟨trivial, fun k => k = w.heap.size, ⟨_, cs, rfl, fun k => Iff.rfl, Go.Deep.blk_alloc_new _ _, rfl⟩, fun _ g hg => by rw [hg]; exact Nat.le_refl _, fun g hg => ?_⟩, (World.Since.refl _ _).alloc (Nat.le_refl _) _⟩
  have hg' : g = w.heap.size := hg
  subst hg'
  exact ⟨by simp, .inl (Nat.le_refl _)⟩
theorem setCells_size (g : Nat) : ∀ (vs : List Value) (o : Nat) (w : World), (w.setCells g o vs).heap.size = w.heap.size
  | [], _, _ => rfl
  | v :: r, o, w => by rw [World.setCells, setCells_size g r]; exact Go.Deep.nblk_setCell _ _ _
theorem setCells_other (g : Nat) : ∀ (vs : List Value) (o : Nat) (w : World) (k : Nat), k ≠ g → (w.setCells g o vs).heap[k]? = w.heap[k]?
  | [], _, _, _, _ => rfl
  | v :: r, o, w, k, hk => by rw [World.setCells, setCells_other g r _ _ k hk]; exact Go.Deep.blk_setCell_other _ _ _ _ hk
theorem setCells_since {N g : Nat} (hg : N ≤ g) : ∀ (vs : List Value) (o : Nat) (w : World), w.Since N (w.setCells g o vs)
  | [], _, _ => World.Since.refl _ _
  | v :: r, o, w => ((World.Since.refl _ _).setCell hg _).trans (setCells_since hg r _ _)
theorem setCells_blk {T : TypeId} {g : Nat} : ∀ (vs : List Value) (o : Nat) (w : World) (cs : Array Value), w.heap[g]? = some (.cells cs T (0, 0)) → o + vs.length ≤ cs.size →
    ∃ cs', (w.setCells g o vs).heap[g]? = some (.cells cs' T (0, 0)) ∧ cs'.size = cs.size ∧ (∀ j, j < o → cs'[j]? = cs[j]?) ∧ ∀ j, j < vs.length → cs'[o + j]? = vs[j]?
  | [], _, _, cs, h, _ => ⟨cs, h, rfl, fun _ _ => rfl, fun j hj => by simp at hj⟩
  | v :: r, o, w, cs, h, hl => by
    have h1 : (w.setCell ⟨g, o, none⟩ v).heap[g]? = some (.cells (cs.setIfInBounds o v) T (0, 0)) := by simp [World.setCell, Array.getElem?_modify, h]
    obtain ⟨cs', e1, e2, e3, e4⟩ := setCells_blk r (o + 1) _ _ h1 (by simp only [List.length_cons] at hl; simp; omega)
    refine ⟨cs', e1, by rw [e2]; simp, fun j hj => ?_, fun j hj => ?_⟩
    · rw [e3 j (by omega), Array.getElem?_setIfInBounds_ne (by omega)]
    · cases j with
      | zero =>
        rw [Nat.add_zero, e3 o (by omega)]
        simp only [List.length_cons] at hl
        rw [Array.getElem?_setIfInBounds_self_of_lt (by omega)]
        rfl
      | succ j =>
        have := e4 j (by simp only [List.length_cons] at hj; omega)
        rw [show o + (j + 1) = o + 1 + j by omega, this]
        rfl
theorem setCells_whole {T : TypeId} {g : Nat} {vs cs : List Value} {w : World} (h : w.heap[g]? = some (.cells cs.toArray T (0, 0))) (hl : vs.length = cs.length) : (w.setCells g 0 vs).heap[g]? = some (.cells vs.toArray T (0, 0)) := by
  obtain ⟨cs', e1, e2, e3, e4⟩ := setCells_blk vs 0 w cs.toArray h (by simp; omega)
  rw [e1]
  congr 2
  apply Array.ext_getElem?
  intro i
  by_cases hi : i < vs.length
  · have := e4 i hi
    rw [Nat.zero_add] at this
    rw [this]; simp
  · rw [Array.getElem?_eq_none (by rw [e2]; simp; omega), Array.getElem?_eq_none (by simp; omega)]
theorem wpK_store (hg : o.guard = none) (ty : TypeId) (p : Nat) (y : Operand) (hop : o.op = .store ty (.tmp p) y) (hd : o.dst = none) (T : TypeId) (Pc Pc' : List Value → Prop) (hk : A.κ p = some (bxK T Pc)) (n : Nat) (hn : ∀ cs, Pc cs → cs.length = n) (hi : (P.info? ty).map (·.size) = some n)
    (hy : ∀ b fp w, w0.Since w0.heap.size w → w0.heap.size ≤ w.heap.size → (∀ i ∈ o.looksAt ops, R w0.heap.size A i b fp w) → ∃ cs : List Value, b.eval y = .agg cs.toArray ∧ cs.length = n ∧ Pc' cs ∧ cs.toArray.all (·.oneCell') = true)
    (hK : wpK P ops w0 Q rest (A.put o.dst ⟨.v undef, some (p, bxK T Pc')⟩)) : wpK P ops w0 Q (o :: rest) A := by
  refine wpK_of_loose (e := ⟨.v undef, some (p, bxK T Pc')⟩) hg ⟨fun q hq => ?_, fun b fp w hw hN _ hR => ?_⟩ hK
  · injection hq with hq
    subst hq
    exact ⟨hd, by unfold stOf; rw [hop]⟩
  · have hm : p ∈ o.looksAt ops := looks_op (by rw [hop]; simp [Op.operands])
    have h := (hR p hm).some_ hk
    obtain ⟨g, cs, e1, hS, hb, hc⟩ := h.2.2.1
    obtain ⟨cs', e2, hl, hc', h1⟩ := hy b fp w hw hN hR
    have hl2 : cs'.length = cs.length := by rw [hl, hn cs hc]
    have ht : w.there g 0 cs'.toArray.size := fun j hj => by
      have hj2 : j < cs.length := by rw [← hl2]; simpa using hj
      rw [Nat.zero_add]
      exact ⟨by simp [World.cell?, hb, hj2], by simp [World.frozen?, hb]⟩
    have er := run_storeAt_mid (P := P) w g 0 ty cs'.toArray ht (by rw [hi]; simp [hl]) h1
    have ex : (execOp b.eval o).run P w = .ok .skip (w.setCells g 0 cs') := by
      have e1' : b.eval (.tmp p) = .pointer (some ⟨g, 0, none⟩) := e1
      simp [execOp, hop, e1', e2, er, Result.andThen]
    have hNg := h.2.2.2.2 rfl g ((hS g).2 rfl)
    rw [ex]
    refine ⟨rfl, setCells_since hNg _ _ _, setCells_size _ _ _ _, ⟨_, hk, rfl⟩, rfl, ⟨g, cs', e1, hS, setCells_whole hb hl2, hc'⟩, fun k hk => setCells_other g _ _ _ k fun e => hk ((hS k).2 e)⟩
end
/-! ### the steps, the frame and what is known apart -/
section
variable {P : Program} {ops : Array Oper} {w0 : World} {Q : Fa → Prop} {a : Act} {κ : Nat → Option Kd} {o : Oper} {rest : List Oper} {d : Nat}
theorem put_some {x : Va} (hs : d < a.tmps.size) : (Fa.mk a κ).put (some d) ⟨x, none⟩ = ⟨a.put (some d) x.val, upd κ d x.kd⟩ := by
  simp [Fa.put, k2, k1, hs]
theorem upd_none (hk : κ d = none) : upd κ d none = κ := by
  funext i
  unfold upd
  by_cases e : i = d
  · subst e; rw [if_pos rfl, hk]
  · rw [if_neg e]
theorem k1_known (hk : κ d = none) (x : Value) : k1 ⟨a, κ⟩ (some d) (.v x) = κ := by
  simp only [k1, Va.kd]
  split
  · exact upd_none hk
  · rfl
theorem put_known {u : Value} (hk : κ d = none) : (Fa.mk a κ).put (some d) (ev u) = ⟨a.put (some d) u, κ⟩ := by
  simp [Fa.put, k2, k1_known hk, ev, Va.val]
theorem sQuiet (hg : o.guard = none) (hd : o.dst = some d) (hk : κ d = none) (ho : avoidK ⟨a, κ⟩ o = true) (hp : pureOp o = true) (h : ∀ K : Act → Prop, (∀ a, wpK P ops w0 Q rest ⟨a, κ⟩ → K a) → o.quiet P a (fun v => w0.Since w0.heap.size v) K) : wpK P ops w0 Q (o :: rest) ⟨a, κ⟩ :=
  wpK_quiet hg ho hp fun K hK => h K fun a' ha => hK a' (by rw [hd, k1_known hk]; exact ha)
theorem sMove (hg : o.guard = none) (hd : o.dst = some d) (hk : κ d = none) (ho : avoidK ⟨a, κ⟩ o = true) (x : Operand) (hop : o.op = .move x ∨ o.op = .assign x) (hK : wpK P ops w0 Q rest ⟨a.put (some d) (a.eval x), κ⟩) : wpK P ops w0 Q (o :: rest) ⟨a, κ⟩ :=
  wpK_told hg ho (a.eval x) (fun w _ _ => ⟨w, by
    rcases hop with h | h
    · exact BigFrame.run_move x h w
    · exact BigFrame.run_assign x h w, World.Since.refl _ _⟩) (by rw [hd, put_known hk]; exact hK)
theorem sTold (hg : o.guard = none) (hd : o.dst = some d) (hk : κ d = none) (ho : avoidK ⟨a, κ⟩ o = true) (v : Value) (hrun : ∀ w, w0.Since w0.heap.size w → w0.heap.size ≤ w.heap.size → ∃ w', (execOp a.eval o).run P w = .ok (.value v) w' ∧ w.Since w.heap.size w') (hK : wpK P ops w0 Q rest ⟨a.put (some d) v, κ⟩) : wpK P ops w0 Q (o :: rest) ⟨a, κ⟩ :=
  wpK_told hg ho v hrun (by rw [hd, put_known hk]; exact hK)
/-- a struct is loaded from the law's box -/
theorem sRow (hg : o.guard = none) (hd : o.dst = some d) (hk : κ d = none) (ho : avoidK ⟨a, κ⟩ o = true) (ty : TypeId) (x : Operand) (hop : o.op = .load ty x) (b off : Nat) (hx : a.eval x = .pointer (some ⟨b, off, none⟩)) (cs : List Value) (ds : TypeDesc)
    (hu : P.underlying ty = some ds) (hr : ds.isRow = true) (hi : (P.info? ty).map (·.size) = some cs.length) (hS : ∀ v, w0.Since w0.heap.size v → v.rangeAt b off cs)
    (hK : wpK P ops w0 Q rest ⟨a.put (some d) (.agg cs.toArray), κ⟩) : wpK P ops w0 Q (o :: rest) ⟨a, κ⟩ :=
  sTold hg hd hk ho _ (fun w hw _ => ⟨w, by
    unfold execOp
    simp only [hop, hx, Instr.loadAt, Instr.sureAddr, Sem.run_bind, Sem.run_pure, Result.andThen_ok, Go.run_loadVar_mid w b off ty cs ds (hS w hw) hu hr hi], World.Since.refl _ _⟩) hK
theorem sCopy (hg : o.guard = none) (hd : o.dst = some d) (hs : d < a.tmps.size) (s : Nat) (hop : o.op = .move (.tmp s) ∨ o.op = .assign (.tmp s)) (K : Kd) (hk : κ s = some K) (hb : K.bx = false) (hK : wpK P ops w0 Q rest ⟨a.put (some d) undef, upd κ d (some K)⟩) : wpK P ops w0 Q (o :: rest) ⟨a, κ⟩ :=
  wpK_copy hg s hop K hk hb (by rw [hd, put_some hs]; exact hK)
theorem sExtract (hg : o.guard = none) (hd : o.dst = some d) (hs : d < a.tmps.size) (s ix : Nat) (hop : o.op = .extract (.tmp s) ix) (K K2 : Kd) (hk : κ s = some K) (hb : K.bx = false) (hb2 : K2.bx = false) (hex : ∀ u S w, K.p u S w → ∃ vs z, u = .tuple vs ∧ vs[ix]? = some z ∧ nb z ∧ K2.p z S w)
    (hK : wpK P ops w0 Q rest ⟨a.put (some d) undef, upd κ d (some K2)⟩) : wpK P ops w0 Q (o :: rest) ⟨a, κ⟩ :=
  wpK_extract hg s ix hop K K2 hk hb hb2 hex (by rw [hd, put_some hs]; exact hK)
theorem sExtractV (hg : o.guard = none) (hd : o.dst = some d) (hkd : κ d = none) (s ix : Nat) (hop : o.op = .extract (.tmp s) ix) (K : Kd) (hk : κ s = some K) (z : Value) (hex : ∀ u S w, K.p u S w → ∃ vs, u = .tuple vs ∧ vs[ix]? = some z)
    (hK : wpK P ops w0 Q rest ⟨a.put (some d) z, κ⟩) : wpK P ops w0 Q (o :: rest) ⟨a, κ⟩ :=
  wpK_extractV hg s ix hop K hk z hex (by rw [hd, put_known hkd]; exact hK)
theorem sCall (hg : o.guard = none) (hd : o.dst = some d) (hs : d < a.tmps.size) (f : FuncId) (xs : List Operand) (tys : Array TypeId) (hop : o.op = Op.call ⟨.value (.func f), xs.toArray, tys⟩) (henter : ∀ args w2, (callFunc f args).run P w2 = .ok (.enter f args) w2) (K : Kd) (hb : K.bx = false)
    (hc : ∀ b fp w, w0.Since w0.heap.size w → w0.heap.size ≤ w.heap.size → (∀ i ∈ o.looksAt ops, R w0.heap.size ⟨a, κ⟩ i b fp w) → Calls P f (xs.map b.eval).toArray w fun e2 w2 => ∃ u S, e2 = .returned u ∧ nb u ∧ K.p u S w2 ∧ w.Since w.heap.size w2 ∧ ∀ g, S g → w.heap.size ≤ g ∧ g < w2.heap.size)
    (hK : wpK P ops w0 Q rest ⟨a.put (some d) undef, upd κ d (some K)⟩) : wpK P ops w0 Q (o :: rest) ⟨a, κ⟩ :=
  wpK_call hg f xs tys hop henter K hb hc (by rw [hd, put_some hs]; exact hK)
theorem mem_call {f : Operand} {xs : List Operand} {tys : Array TypeId} (hop : o.op = Op.call ⟨.value f, xs.toArray, tys⟩) : ∀ x ∈ xs, x ∈ o.op.operands := fun x hx => by
  rw [hop]
  simp [Op.operands, Call.operands, hx]
/-- a call of known arguments -/
theorem sCallK (hg : o.guard = none) (hd : o.dst = some d) (hs : d < a.tmps.size) (f : FuncId) (xs : List Operand) (tys : Array TypeId) (hop : o.op = Op.call ⟨.value (.func f), xs.toArray, tys⟩) (henter : ∀ args w2, (callFunc f args).run P w2 = .ok (.enter f args) w2) (ho : avoidK ⟨a, κ⟩ o = true) (vs : List Value) (hvs : xs.map a.eval = vs) (K : Kd) (hb : K.bx = false)
    (hc : ∀ w, w0.Since w0.heap.size w → w0.heap.size ≤ w.heap.size → Calls P f vs.toArray w fun e2 w2 => ∃ u S, e2 = .returned u ∧ nb u ∧ K.p u S w2 ∧ w.Since w.heap.size w2 ∧ ∀ g, S g → w.heap.size ≤ g ∧ g < w2.heap.size)
    (hK : wpK P ops w0 Q rest ⟨a.put (some d) undef, upd κ d (some K)⟩) : wpK P ops w0 Q (o :: rest) ⟨a, κ⟩ :=
  sCall hg hd hs f xs tys hop henter K hb (fun b fp w hw hN hR => by
    have e : xs.map b.eval = vs := by
      rw [← hvs]
      refine List.map_congr_left fun x hx => ?_
      unfold avoidK at ho
      rw [Bool.and_eq_true] at ho
      have h1 := List.all_eq_true.1 ho.1 x (by simpa using mem_call hop x hx)
      cases x with
      | tmp t =>
        simp only at h1
        exact (hR t (looks_op (mem_call hop _ hx))).none_ (by simpa using h1)
      | const v => rfl
      | global g => rfl
      | func f => rfl
    rw [e]
    exact hc w hw hN) hK
/-- a call of known arguments with one known value -/
theorem sCallV (hg : o.guard = none) (hd : o.dst = some d) (hk : κ d = none) (f : FuncId) (xs : List Operand) (tys : Array TypeId) (hop : o.op = Op.call ⟨.value (.func f), xs.toArray, tys⟩) (henter : ∀ args w2, (callFunc f args).run P w2 = .ok (.enter f args) w2) (ho : avoidK ⟨a, κ⟩ o = true) (vs : List Value) (hvs : xs.map a.eval = vs) (z : Value)
    (hc : ∀ w, w0.Since w0.heap.size w → w0.heap.size ≤ w.heap.size → Calls P f vs.toArray w fun e2 w2 => e2 = .returned z ∧ w.Since w.heap.size w2)
    (hK : wpK P ops w0 Q rest ⟨a.put (some d) z, κ⟩) : wpK P ops w0 Q (o :: rest) ⟨a, κ⟩ :=
  wpK_callV hg f xs tys hop henter z (fun b fp w hw hN hR => by
    have e : xs.map b.eval = vs := by
      rw [← hvs]
      refine List.map_congr_left fun x hx => ?_
      unfold avoidK at ho
      rw [Bool.and_eq_true] at ho
      have h1 := List.all_eq_true.1 ho.1 x (by simpa using mem_call hop x hx)
      cases x with
      | tmp t =>
        simp only at h1
        exact (hR t (looks_op (mem_call hop _ hx))).none_ (by simpa using h1)
      | const v => rfl
      | global g => rfl
      | func f => rfl
    rw [e]
    exact hc w hw hN) (by rw [hd, put_known hk]; exact hK)
/-- a call, one of whose arguments is known by its properties -/
theorem sCall1 (hg : o.guard = none) (hd : o.dst = some d) (hs : d < a.tmps.size) (f : FuncId) (xs : List Operand) (tys : Array TypeId) (hop : o.op = Op.call ⟨.value (.func f), xs.toArray, tys⟩) (henter : ∀ args w2, (callFunc f args).run P w2 = .ok (.enter f args) w2) (s : Nat) (hin : (.tmp s : Operand) ∈ xs) (K0 : Kd) (hks : κ s = some K0) (V : Value → List Value)
    (hV : ∀ b : Act, (xs.map fun x => match x with | .tmp t => (match κ t with | some _ => b.tmps.getD t undef | none => a.tmps.getD t undef) | y => a.eval y) = V (b.tmps.getD s undef)) (K : Kd) (hb : K.bx = false)
    (hc : ∀ u S w, w0.Since w0.heap.size w → w0.heap.size ≤ w.heap.size → K0.p u S w → Calls P f (V u).toArray w fun e2 w2 => ∃ u S, e2 = .returned u ∧ nb u ∧ K.p u S w2 ∧ w.Since w.heap.size w2 ∧ ∀ g, S g → w.heap.size ≤ g ∧ g < w2.heap.size)
    (hK : wpK P ops w0 Q rest ⟨a.put (some d) undef, upd κ d (some K)⟩) : wpK P ops w0 Q (o :: rest) ⟨a, κ⟩ :=
  sCall hg hd hs f xs tys hop henter K hb (fun b fp w hw hN hR => by
    have e := args_eq hR (mem_call hop)
    rw [e]
    have h := (hR s (looks_op (mem_call hop _ hin))).some_ hks
    have := hc _ _ w hw hN h.2.2.1
    rw [← hV b] at this
    exact this) hK
theorem sAlloc (hg : o.guard = none) (hd : o.dst = some d) (hs : d < a.tmps.size) (elem : TypeId) (hop : o.op = .alloc elem) (T : TypeId) (cs : List Value) (hrun : ∀ w : World, (Instr.alloc elem true (.tuple #[])).run P w = .ok (.pointer (some ⟨w.heap.size, 0, none⟩)) (w.alloc (.cells cs.toArray T)))
    (hK : wpK P ops w0 Q rest ⟨a.put (some d) undef, upd κ d (some (bxK T (· = cs)))⟩) : wpK P ops w0 Q (o :: rest) ⟨a, κ⟩ :=
  wpK_alloc hg elem hop T cs hrun (by rw [hd, put_some hs]; exact hK)
/-- a known struct is stored into a box of the statement's own -/
theorem sStore (hg : o.guard = none) (ty : TypeId) (p : Nat) (y : Operand) (hop : o.op = .store ty (.tmp p) y) (hd : o.dst = none) (T : TypeId) (Pc : List Value → Prop) (hk : κ p = some (bxK T Pc)) (n : Nat) (hn : ∀ cs, Pc cs → cs.length = n) (hi : (P.info? ty).map (·.size) = some n)
    (ho : avoidK ⟨a, fun i => if i = p then none else κ i⟩ o = true) (cs : List Value) (hy : a.eval y = .agg cs.toArray) (hyp : y ≠ .tmp p) (hl : cs.length = n) (h1 : cs.toArray.all (·.oneCell') = true)
    (hK : wpK P ops w0 Q rest ⟨a, upd κ p (some (bxK T (· = cs)))⟩) : wpK P ops w0 Q (o :: rest) ⟨a, κ⟩ :=
  wpK_store hg ty p y hop hd T Pc (· = cs) hk n hn hi (fun b fp w hw hN hR => ⟨cs, by
    rw [← hy]
    unfold avoidK at ho
    rw [Bool.and_eq_true] at ho
    cases y with
    | tmp t =>
      have h1 := List.all_eq_true.1 ho.1 (.tmp t) (by rw [hop]; simp [Op.operands])
      have hne : t ≠ p := fun e => hyp (by rw [e])
      simp only [if_neg hne] at h1
      exact (hR t (looks_op (by rw [hop]; simp [Op.operands]))).none_ (by simpa using h1)
    | const v => rfl
    | global g => rfl
    | func f => rfl, hl, rfl, h1⟩) (by rw [hd]; simpa [Fa.put, Act.put, k2, k1] using hK)
/-- a struct known by its properties is stored into a box of the statement's own -/
theorem sStoreK (hg : o.guard = none) (ty : TypeId) (p s : Nat) (hop : o.op = .store ty (.tmp p) (.tmp s)) (hd : o.dst = none) (T : TypeId) (Pc Pc' : List Value → Prop) (hk : κ p = some (bxK T Pc)) (K : Kd) (hks : κ s = some K) (n : Nat) (hn : ∀ cs, Pc cs → cs.length = n) (hi : (P.info? ty).map (·.size) = some n)
    (hy : ∀ u S w, K.p u S w → ∃ cs : List Value, u = .agg cs.toArray ∧ cs.length = n ∧ Pc' cs ∧ cs.toArray.all (·.oneCell') = true)
    (hK : wpK P ops w0 Q rest ⟨a, upd κ p (some (bxK T Pc'))⟩) : wpK P ops w0 Q (o :: rest) ⟨a, κ⟩ :=
  wpK_store hg ty p (.tmp s) hop hd T Pc Pc' hk n hn hi (fun b fp w hw hN hR => hy _ _ _ ((hR s (looks_op (by rw [hop]; simp [Op.operands]))).some_ hks).2.2.1) (by rw [hd]; simpa [Fa.put, Act.put, k2, k1] using hK)
end
/-! ### the end -/
theorem After.slot {w0 : World} {A : Fa} {Rr : Act → (Nat → Fp) → World → Prop} (d : Nat) (K : Kd) (hk : A.κ d = some K)
    (h : ∀ u, nb u → After w0 ⟨A.a.put (some d) u, upd A.κ d none⟩ fun b fp w => K.p u (fp d) w → (∀ g, fp d g → g < w.heap.size) → (K.bx = true → ∀ g, fp d g → w0.heap.size ≤ g) → Rr b fp w) : After w0 A Rr := by
  intro b fp w hw hN hab
  have hd := (hab.2.2.1 d).some_ hk
  refine h (b.tmps.getD d undef) hd.2.1 b fp w hw hN ⟨hab.1, by rw [put_size]; exact hab.2.1, fun i => ?_, fun i j K1 K2 hij hi hj hb => ?_⟩ hd.2.2.1 hd.2.2.2.1 hd.2.2.2.2
  · by_cases e : i = d
    · subst e
      refine R_of_none (by simp [upd]) ?_
      show _ = (A.a.tmps.setIfInBounds i (b.tmps.getD i undef)).getD i undef
      rw [Lo.getD_put]
      by_cases hs : i < A.a.tmps.size
      · rw [if_pos ⟨rfl, hs⟩]
      · rw [if_neg (fun h => hs h.2)]
        have e1 : A.a.tmps.getD i undef = undef := by simp [Array.getD_eq_getD_getElem?, Array.getElem?_eq_none (Nat.le_of_not_lt hs)]
        have e2 : b.tmps.getD i undef = undef := by
          have h2 := hab.2.1
          simp [Array.getD_eq_getD_getElem?, Array.getElem?_eq_none (show b.tmps.size ≤ i by rw [h2]; exact Nat.le_of_not_lt hs)]
        rw [e1, e2]
    · have hki : (Fa.mk (A.a.put (some d) (b.tmps.getD d undef)) (upd A.κ d none)).κ i = A.κ i := by simp [upd, e]
      have hv : (A.a.put (some d) (b.tmps.getD d undef)).tmps.getD i undef = A.a.tmps.getD i undef := by
        show (A.a.tmps.setIfInBounds d (b.tmps.getD d undef)).getD i undef = _
        rw [Lo.getD_put, if_neg (fun h => e h.1.symm)]
      have h3 := hab.2.2.1 i
      unfold R at h3 ⊢
      rw [hki]
      simp only [hv]
      exact h3
  · have hi' : i ≠ d ∧ A.κ i = some K1 := by
      by_cases e : i = d
      · subst e; simp [upd] at hi
      · exact ⟨e, by simpa [upd, e] using hi⟩
    have hj' : j ≠ d ∧ A.κ j = some K2 := by
      by_cases e : j = d
      · subst e; simp [upd] at hj
      · exact ⟨e, by simpa [upd, e] using hj⟩
    exact hab.2.2.2 i j K1 K2 hij hi'.2 hj'.2 hb
theorem After.apart {w0 : World} {A : Fa} {Rr : Act → (Nat → Fp) → World → Prop} (i j : Nat) (K K' : Kd) (hi : A.κ i = some K) (hj : A.κ j = some K') (hb : K.bx = true) (hne : i ≠ j)
    (h : After w0 A fun b fp w => (∀ g, fp i g → ¬ fp j g) → Rr b fp w) : After w0 A Rr := fun b fp w hw hN hab => h b fp w hw hN hab (hab.2.2.2 i j K K' hne hi hj hb)
def nbut (ds : List Nat) (κ : Nat → Option Kd) : Prop := ∀ i, i ∉ ds → κ i = none
theorem nbut.start {ds : List Nat} : nbut ds (fun _ => none) := fun _ _ => rfl
theorem nbut.upd {ds : List Nat} {κ : Nat → Option Kd} {d : Nat} {k : Option Kd} (hd : d ∈ ds) (h : nbut ds κ) : nbut ds (Lk.upd κ d k) := fun i hi => by
  have : i ≠ d := fun e => hi (e ▸ hd)
  simp only [Lk.upd, if_neg this]
  exact h i hi
theorem After.end_ {w0 : World} {a : Act} {κ : Nat → Option Kd} {Rr : Act → (Nat → Fp) → World → Prop} (ds : List Nat) (hn : nbut ds κ) (hk : (ds.all fun d => (κ d).isNone) = true) (h : ∀ fp w, w0.Since w0.heap.size w → Rr a fp w) : After w0 ⟨a, κ⟩ Rr := by
  intro b fp w hw hN hab
  obtain ⟨h1, h2, h3, _⟩ := hab
  have hall : ∀ i, κ i = none := fun i => by
    by_cases hi : i ∈ ds
    · have := List.all_eq_true.1 hk i hi
      simpa using this
    · exact hn i hi
  have e : b = a := by
    obtain ⟨bt, bd⟩ := b
    obtain ⟨at_, ad⟩ := a
    simp only at h1 h2 h3
    subst h1
    congr 1
    apply Array.ext h2
    intro i hi1 hi2
    have := (h3 i).none_ (hall i)
    simpa [Array.getD_eq_getD_getElem?, hi1, hi2] using this
  subst e
  exact h fp w hw
end Lk
end Go.Proofs.Ytebocaicebolaaa

/- What is known of a slot: lists of numbers, boxes. -/
set_option linter.unusedVariables false
set_option linter.unusedSimpArgs false
namespace Go.Proofs.Ytebocaicebolaaa
open Fl Go.RowKit
namespace Lk
/-- an entry among these blocks, behind lo -/
def EnK (lo : Nat) (e : En) (S : Fp) (w : World) : Prop := e.P w ∧ (∀ w w' : World, (∀ g, e.S g → w'.heap[g]? = w.heap[g]?) → e.P w → e.P w') ∧ (∀ k, e.S k → S k) ∧ ∀ k, e.S k → lo ≤ k
theorem EnK.keep {lo : Nat} {e : En} {S : Fp} {w w' : World} (h : EnK lo e S w) (hs : ∀ g, S g → w'.heap[g]? = w.heap[g]?) : EnK lo e S w' := ⟨h.2.1 w w' (fun g hg => hs g (h.2.2.1 g hg)) h.1, h.2⟩
theorem EnK.of {lo B : Nat} {e : En} {w : World} (h : Ge B w e) (hl : lo ≤ B) : EnK lo e e.S w := ⟨h.1, h.2.1, fun _ h => h, fun k hk => Nat.le_trans hl (h.2.2 k hk).1⟩
theorem EnK.ge {lo : Nat} {e : En} {S : Fp} {w : World} (h : EnK lo e S w) (hb : ∀ g, S g → g < w.heap.size) : Ge lo w e := ⟨h.1, h.2.1, fun g hg => ⟨h.2.2.2 g hg, hb g (h.2.2.1 g hg)⟩⟩
theorem EnK.readF {lo n : Nat} {A : Option Addr} {xs : List Nat} {S : Fp} {w : World} (h : EnK lo (fe A n xs) S w) : Fs w w.heap.size A n xs :=
  ⟨h.1.1.1, h.1.1.2, fun hn => by
    obtain ⟨g, off, cs, e, hb, hc⟩ := h.1.2 hn
    refine ⟨g, off, e, (Array.getElem?_eq_some_iff.1 hb).1, fun k hk => ?_⟩
    simp only [World.cell?, hb]
    simpa using hc k hk⟩
/-- a copy of numbers -/
def xK (lo n : Nat) (xs : List Nat) : Kd where
  p := fun u S w => ∃ B : Nat, u = .slice (some ⟨B, 0, none⟩) n n ∧ EnK lo (fe (some ⟨B, 0, none⟩) n xs) S w
  stable := fun u S w w' h hp => by
    obtain ⟨B, e, hb⟩ := hp
    exact ⟨B, e, hb.keep h⟩
  bx := false
/-- a list of numbers -/
def feK (lo n0 : Nat) (f0 : Nat → O) : Kd where
  p := fun u S w => ∃ (p : Ls) (c : Nat), u = .slice p.A p.n c ∧ p.n = n0 ∧ Are p f0 ∧ EnK lo (fe p.A p.n p.xs) S w
  stable := fun u S w w' h hp => by
    obtain ⟨p, c, e, h1, h2, hb⟩ := hp
    exact ⟨p, c, e, h1, h2, hb.keep h⟩
  bx := false
theorem box_ge {T : TypeId} {Pc : List Value → Prop} {u : Value} {S : Fp} {w : World} {lo : Nat} (h : (bxK T Pc).p u S w) (hb : ∀ g, S g → g < w.heap.size) (hl : ∀ g, S g → lo ≤ g) : ∃ g cs, u = .pointer (some ⟨g, 0, none⟩) ∧ Pc cs ∧ (∀ k, S k ↔ k = g) ∧ Ge lo w (bxv T g cs) := by
  obtain ⟨g, cs, e, hS, hh, hc⟩ := h
  exact ⟨g, cs, e, hc, hS, hh, fun w w' h hp => (h g rfl).trans hp, fun k hk => by
    have hk' : k = g := hk
    subst hk'
    exact ⟨hl k ((hS k).2 rfl), hb k ((hS k).2 rfl)⟩⟩
theorem box_de {T : TypeId} {g : Nat} {cs : List Value} {S S' : Fp} {e : En} {lo : Nat} {w : World} (hS : ∀ k, S k ↔ k = g) (hd : ∀ k, S k → ¬ S' k) (h : EnK lo e S' w) : De (bxv T g cs) e := fun k hk he => hd k ((hS k).2 hk) (h.2.2.1 k he)
end Lk
end Go.Proofs.Ytebocaicebolaaa

/- What is known of a slot: a memory; a list, a memory and a yes or no. -/
set_option linter.unusedVariables false
set_option linter.unusedSimpArgs false
namespace Go.Proofs.Ytebocaicebolaaa
open Fl Go.RowKit
namespace Lk
def mK (M : Mem) : Kd where
  p := fun u S w => ∃ m : MemN, u = .agg #[.float .f32 m.a, .float .f32 m.b, .float .f32 m.c, .float .f32 m.d] ∧ FvM m M
  stable := fun u S w w' h hp => hp
  bx := false
def plmK (lo n0 : Nat) (f0 : Nat → O) (M : Mem) (b : Bool) : Kd where
  p := fun u S w => ∃ (p : Ls) (c : Nat) (m : MemN), u = .tuple #[.slice p.A p.n c, .agg #[.float .f32 m.a, .float .f32 m.b, .float .f32 m.c, .float .f32 m.d], .bool b] ∧ p.n = n0 ∧ Are p f0 ∧ FvM m M ∧ EnK lo (fe p.A p.n p.xs) S w
  stable := fun u S w w' h hp => by
    obtain ⟨p, c, m, e, h1, h2, h3, hb⟩ := hp
    exact ⟨p, c, m, e, h1, h2, h3, hb.keep h⟩
  bx := false
/-- a memory's cells -/
def isMem (M : Mem) (cs : List Value) : Prop := ∃ a b c d : Nat, cs = [a, b, c, d].map (fun x => Value.float .f32 x) ∧ FvM ⟨a, b, c, d⟩ M
theorem plm_of {lo n0 : Nat} {f0 : Nat → O} {M : Mem} {b : Bool} {w w' : World} {e : Ending} (hl : lo ≤ w.heap.size) (h : PLMB n0 f0 M b w e w') : ∃ u S, e = .returned u ∧ nb u ∧ (plmK lo n0 f0 M b).p u S w' ∧ w.Since w.heap.size w' ∧ ∀ g, S g → w.heap.size ≤ g ∧ g < w'.heap.size := by
  obtain ⟨p, c, m, rfl, h1, h2, h3, h4, h5⟩ := h
  have hg := h2.toE
  exact ⟨_, (fe p.A p.n p.xs).S, rfl, trivial, ⟨p, c, m, rfl, h1, h3, h4, EnK.of hg hl⟩, h5, hg.2.2⟩
end Lk
end Go.Proofs.Ytebocaicebolaaa

/- Draws: bytes that can be read, and the source of draws. -/
set_option linter.unusedVariables false
set_option linter.unusedSimpArgs false
namespace Go.Proofs.Ytebocaicebolaaa
open Fl Go.RowKit
theorem and255u (z : Int) : 0 ≤ wrap64 (bits BinOp.and IntKind.u64 z 255) ∧ wrap64 (bits BinOp.and IntKind.u64 z 255) < 256 := by
  have h : bits BinOp.and IntKind.u64 z 255 = z % 256 := by
    have hb : (BitVec.ofInt 64 255).toNat = 255 := by decide
    have ha : (BitVec.ofInt 64 z).toNat = (z % 18446744073709551616).toNat := by rw [BitVec.toNat_ofInt]; rfl
    have hw : ∀ n : Nat, n < 256 → IntKind.u64.wrap (n : Int) = n := fun n h => by rw [IntKind.wrap_u64]; omega
    show IntKind.u64.wrap (((BitVec.ofInt 64 z &&& BitVec.ofInt 64 255).toNat : Nat) : Int) = _
    rw [BitVec.toNat_and, ha, hb]
    have e : ∀ n : Nat, n &&& 255 = n % 256 := fun n => Nat.and_two_pow_sub_one_eq_mod n 8
    rw [e, hw _ (Nat.mod_lt _ (by decide))]
    omega
  rw [h]
  unfold wrap64
  omega
/-- bytes that can be read -/
def Bs (w : World) (B : Nat) (A : Option Addr) (n : Nat) (xs : List Int) : Prop :=
  xs.length = n ∧ (∀ k, 0 ≤ wi xs k ∧ wi xs k < 256) ∧ (0 < n → ∃ g off, A = some ⟨g, off, none⟩ ∧ g < B ∧ ∀ k, k < n → w.cell? ⟨g, off + k, none⟩ = some (.int .u8 (wi xs k)))
theorem Bs.keep {w w' : World} {B : Nat} {A : Option Addr} {n : Nat} {xs : List Int} (h : Bs w B A n xs) (hk : ∀ g o, g < B → w'.cell? ⟨g, o, none⟩ = w.cell? ⟨g, o, none⟩) : Bs w' B A n xs :=
  ⟨h.1, h.2.1, fun hn => by
    obtain ⟨g, off, e, hg, hc⟩ := h.2.2 hn
    exact ⟨g, off, e, hg, fun k hk' => (hk g _ hg).trans (hc k hk')⟩⟩
theorem Bs.more {w : World} {B B' : Nat} {A : Option Addr} {n : Nat} {xs : List Int} (h : Bs w B A n xs) (hB : B ≤ B') : Bs w B' A n xs :=
  ⟨h.1, h.2.1, fun hn => by
    obtain ⟨g, off, e, hg, hc⟩ := h.2.2 hn
    exact ⟨g, off, e, by omega, hc⟩⟩
theorem Bs.since {w w' : World} {B B' : Nat} {A : Option Addr} {n : Nat} {xs : List Int} (h : Bs w B A n xs) (hs : w.Since B' w') (hB : B ≤ B') : Bs w' B A n xs :=
  h.keep fun g o hg => hs.cell (a := ⟨g, o, none⟩) (by show g < B'; omega)
theorem Bs.drewN {w : World} {B : Nat} {A : Option Addr} {n : Nat} {xs : List Int} (h : Bs w B A n xs) (m : Nat) : Bs (w.drewN m) B A n xs := h.keep fun _ _ _ => rfl
/-- a source's block -/
def SrcB (w : World) (b : Nat) (A : Option Addr) (n c : Nat) (i sd : Int) : Prop := w.heap[b]? = some (.cells #[.slice A n c, .int .i64 i, .int .u64 sd] 125 (0, 0))
theorem SrcB.lt {w : World} {b n c : Nat} {A : Option Addr} {i sd : Int} (h : SrcB w b A n c i sd) : b < w.heap.size := (Array.getElem?_eq_some_iff.1 h).1
theorem SrcB.c0 {w : World} {b n c : Nat} {A : Option Addr} {i sd : Int} (h : SrcB w b A n c i sd) : w.cell? ⟨b, 0, none⟩ = some (.slice A n c) := by unfold SrcB at h; simp [World.cell?, h]
theorem SrcB.c1 {w : World} {b n c : Nat} {A : Option Addr} {i sd : Int} (h : SrcB w b A n c i sd) : w.cell? ⟨b, 1, none⟩ = some (.int .i64 i) := by unfold SrcB at h; simp [World.cell?, h]
theorem SrcB.c2 {w : World} {b n c : Nat} {A : Option Addr} {i sd : Int} (h : SrcB w b A n c i sd) : w.cell? ⟨b, 2, none⟩ = some (.int .u64 sd) := by unfold SrcB at h; simp [World.cell?, h]
theorem SrcB.free {w : World} {b n c q : Nat} {A : Option Addr} {i sd : Int} (h : SrcB w b A n c i sd) : w.frozen? ⟨b, q, none⟩ = false := by unfold SrcB at h; simp [World.frozen?, h]
theorem SrcB.of {w w' : World} {b n c : Nat} {A : Option Addr} {i sd : Int} (h : SrcB w b A n c i sd) (e : w'.heap[b]? = w.heap[b]?) : SrcB w' b A n c i sd := e.trans h
theorem SrcB.set1 {w : World} {b n c : Nat} {A : Option Addr} {i sd i' : Int} (h : SrcB w b A n c i sd) : SrcB (w.setCell ⟨b, 1, none⟩ (.int .i64 i')) b A n c i' sd := by
  unfold SrcB at h ⊢
  simp [World.setCell, Array.getElem?_modify, h]
theorem SrcB.set2 {w : World} {b n c : Nat} {A : Option Addr} {i sd sd' : Int} (h : SrcB w b A n c i sd) : SrcB (w.setCell ⟨b, 2, none⟩ (.int .u64 sd')) b A n c i sd' := by
  unfold SrcB at h ⊢
  simp [World.setCell, Array.getElem?_modify, h]
/-- a source in block b that has drawn at most K times, whose bytes lie in blocks before B -/
def Src (B b K : Nat) (w : World) : Prop := ∃ (A : Option Addr) (n c : Nat) (xs : List Int) (i sd : Int), SrcB w b A n c i sd ∧ Bs w B A n xs ∧ B ≤ b ∧ n ≤ 1048576 ∧ 0 ≤ i ∧ i ≤ (K : Int)
theorem Src.on {B b K : Nat} {w w' : World} (h : Src B b K w) (hs : w.Since (b + 1) w') : Src B b K w' := by
  obtain ⟨A, n, c, xs, i, sd, h1, h2, h3, h4, h5⟩ := h
  exact ⟨A, n, c, xs, i, sd, h1.of (hs.block b (by omega)), h2.since hs (by omega), h3, h4, h5⟩
theorem Src.up {B b K K' : Nat} {w : World} (h : Src B b K w) (hK : K ≤ K') : Src B b K' w := by
  obtain ⟨A, n, c, xs, i, sd, h1, h2, h3, h4, h5, h6⟩ := h
  exact ⟨A, n, c, xs, i, sd, h1, h2, h3, h4, h5, by omega⟩
theorem Src.lt {B b K : Nat} {w : World} (h : Src B b K w) : b < w.heap.size := by
  obtain ⟨A, n, c, xs, i, sd, h1, h2, h3, h4, h5, h6⟩ := h
  exact h1.lt
theorem Src.drewN {B b K : Nat} {w : World} (h : Src B b K w) (m : Nat) : Src B b K (w.drewN m) := h.on (since_drewN (World.Since.refl _ _) m)
theorem on_post {b lo : Nat} {w a c : World} (h : On b w a) (s : a.Since lo c) (hl : w.heap.size ≤ lo) (hb : b < w.heap.size) : On b w c :=
  ⟨h.1.trans (since_mono s (by omega)), fun x hx hn => (s.block x (by omega)).trans (h.2 x hx hn)⟩
theorem Src.low {B b K : Nat} {w : World} (h : Src B b K w) : B ≤ b := by
  obtain ⟨A, n, c, xs, i, sd, h1, h2, h3, h4, h5, h6⟩ := h
  exact h3
set_option maxHeartbeats 4000000 in
set_option maxRecDepth 100000 in
theorem next_any (B b K : Nat) (w : World) (h : Src B b K w) (hK : K ≤ 1000000000) :
    Calls Try.prog 96 #[.pointer (some ⟨b, 0, none⟩)] w fun e w' => ∃ v : Int, e = .returned (.int .i64 v) ∧ 0 ≤ v ∧ v < 256 ∧ Src B b (K + 1) w' ∧ On b w w' := by
  obtain ⟨A, n, c, xs, i, sd, h1, h2, h3, h4, h5, h6⟩ := h
  have H1 := Lib.hid h1; have H2 := Lib.hid h2
  have c0 := h1.c0; have c1 := h1.c1; have c2 := h1.c2
  have f1 := h1.free (q := 1); have f2 := h1.free (q := 2)
  clear h1 h2
  by_cases hi : i < (n : Int)
  · have hd : decide (i < (n : Int)) = true := decide_eq_true hi
    have hd2 : decide (i + 1 ≤ (n : Int)) = true := decide_eq_true (by omega)
    obtain ⟨j, rfl⟩ := Int.eq_ofNat_of_zero_le h5
    obtain ⟨g, off, rfl, hg, hc⟩ := H2.out.2.2 (by omega)
    have hcell := hc j (by omega)
    have hv := H2.out.2.1 j
    clear hc
    go_enter Try.func96, Try.ntmps96
    go_wp2_with fail
    go_quiet (fail)
    go_wp2_with fail
    go_quiet (fail)
    go_wp2_with fail
    generalize IntKind.wrap .u64 (IntKind.wrap .u64 (_ + _) + 1442695040888963407) = sd'
    generalize hW : World.setCell _ _ _ = W
    have B1 : Hid (SrcB W b (some ⟨g, off, none⟩) n c ((j : Int) + 1) sd') := Lib.hid (by rw [← hW]; exact H1.out.set1.set2)
    have O1 : Hid (On b w W) := Lib.hid (by rw [← hW]; exact ((On.refl _ _).set _ _).set _ _)
    have d0 := B1.out.c0; have d1 := B1.out.c1; have d2 := B1.out.c2
    clear hW
    go_quiet (fail)
    go_wp2
    go_ret
    exact ⟨_, rfl, hv.1, hv.2, ⟨_, n, c, xs, _, sd', B1.out, by first | exact (H2.out.since O1.out.1 h3).drewN _ | exact ((H2.out.since O1.out.1 h3).drewN _).drewN _, h3, h4, by omega, by omega⟩, by first | exact O1.out.drewN _ | exact (O1.out.drewN _).drewN _⟩
  · have hd : decide (i < (n : Int)) = false := decide_eq_false hi
    have hd2 : decide (i + 1 ≤ (n : Int)) = false := decide_eq_false (by omega)
    go_enter Try.func96, Try.ntmps96
    go_wp2_with fail
    go_quiet (fail)
    go_wp2_with fail
    generalize IntKind.wrap .u64 (IntKind.wrap .u64 _ + 1442695040888963407) = sd'
    generalize hW : World.setCell _ _ _ = W
    have B1 : Hid (SrcB W b A n c (i + 1) sd') := Lib.hid (by rw [← hW]; exact H1.out.set1.set2)
    have O1 : Hid (On b w W) := Lib.hid (by rw [← hW]; exact ((On.refl _ _).set _ _).set _ _)
    have d0 := B1.out.c0; have d1 := B1.out.c1; have d2 := B1.out.c2
    clear hW
    go_quiet (fail)
    go_wp2
    go_ret
    have h255 := and255u (sd' / 1099511627776)
    exact ⟨_, rfl, h255.1, h255.2, ⟨_, n, c, xs, _, sd', B1.out, by first | exact (H2.out.since O1.out.1 h3).drewN _ | exact ((H2.out.since O1.out.1 h3).drewN _).drewN _, h3, h4, by omega, by omega⟩, by first | exact O1.out.drewN _ | exact (O1.out.drewN _).drewN _⟩
end Go.Proofs.Ytebocaicebolaaa

/- Draws: picks of numbers. -/
set_option linter.unusedVariables false
set_option linter.unusedSimpArgs false
namespace Go.Proofs.Ytebocaicebolaaa
open Fl Go.RowKit
set_option maxHeartbeats 4000000 in
set_option maxRecDepth 100000 in
theorem pick_any (B b K : Nat) (n : Int) (w : World) (h : Src B b K w) (hK : K ≤ 1000000) (hn : n ≤ 1000000000) :
    Calls Try.prog 80 #[.pointer (some ⟨b, 0, none⟩), .int .i64 n] w fun e w' => ∃ v : Int, e = .returned (.int .i64 v) ∧ 0 ≤ v ∧ (1 ≤ n → v < n) ∧ Src B b (K + 2) w' ∧ On b w w' := by
  by_cases h1 : n ≤ 1
  · have hd : decide (n ≤ 1) = true := decide_eq_true h1
    go_enter Try.func80, Try.ntmps80
    go_wp2
    go_ret
    exact ⟨0, rfl, by omega, fun _ => by omega, h.up (by omega), On.refl _ _⟩
  · have hd : decide (n ≤ 1) = false := decide_eq_false h1
    have hz : n ≠ 0 := by omega
    have HH := Lib.hid h; clear h
    by_cases h2 : 200 < n
    · have hd2 : decide (200 < n) = true := decide_eq_true h2
      go_enter Try.func80, Try.ntmps80
      go_wp2_with fail
      refine (next_any B b K w HH.out (by omega)).mono ?_
      rintro e w1 ⟨v1, rfl, a1, a2, s1, o1⟩
      have S1 := Lib.hid s1; have O1 := Lib.hid o1; clear s1 o1
      go_wp2_with fail
      refine (next_any B b (K + 1) w1 S1.out (by omega)).mono ?_
      rintro e w2 ⟨v2, rfl, a3, a4, s2, o2⟩
      have S2 := Lib.hid s2; have O2 := Lib.hid o2; clear s2 o2
      go_wp2
      go_ret
      exact ⟨_, rfl, by exact Int.emod_nonneg _ hz, fun _ => by exact Int.emod_lt_of_pos _ (by omega), S2.out, O1.out.trans O2.out⟩
    · have hd2 : decide (200 < n) = false := decide_eq_false h2
      go_enter Try.func80, Try.ntmps80
      go_wp2_with fail
      refine (next_any B b K w HH.out (by omega)).mono ?_
      rintro e w1 ⟨v1, rfl, a1, a2, s1, o1⟩
      have S1 := Lib.hid s1; have O1 := Lib.hid o1; clear s1 o1
      go_wp2
      go_ret
      exact ⟨_, rfl, by exact Int.emod_nonneg _ hz, fun _ => by exact Int.emod_lt_of_pos _ (by omega), S1.out.up (by omega), O1.out⟩
theorem one_any (B b K : Nat) (n : Int) (w : World) (h : Src B b K w) (hK : K ≤ 1000000) (hn : n ≤ 1000000000) :
    Calls Try.prog 94 #[.pointer (some ⟨b, 0, none⟩), .int .i64 n] w fun e w' => ∃ v : Bool, e = .returned (.bool v) ∧ Src B b (K + 2) w' ∧ On b w w' := by
  have HH := Lib.hid h; clear h
  go_enter Try.func94, Try.ntmps94
  go_wp2_with fail
  refine (pick_any B b K n w HH.out hK hn).mono ?_
  rintro e w1 ⟨v1, rfl, a1, a2, s1, o1⟩
  have S1 := Lib.hid s1; have O1 := Lib.hid o1; clear s1 o1
  go_wp2
  go_ret
  exact ⟨_, rfl, S1.out, O1.out⟩
/-- one of a list of numbers that lie in a block of their own -/
theorem among_any (B b K g n : Nat) (xs : List Int) (w : World) (h : Src B b K w) (hK : K ≤ 1000000) (hx : Is w w.heap.size (some ⟨g, 0, none⟩) n xs) (h0 : 0 < n) (hn : n ≤ 1000000) (hg : b < g) (hlt : g < w.heap.size) :
    Calls Try.prog 105 #[.pointer (some ⟨b, 0, none⟩), .slice (some ⟨g, 0, none⟩) n n] w fun e w' => ∃ k : Nat, e = .returned (.int .i64 (wi xs k)) ∧ k < n ∧ Src B b (K + 2) w' ∧ On b w w' := by
  have HH := Lib.hid h; have HX := Lib.hid hx; clear h hx
  go_enter Try.func105, Try.ntmps105
  go_wp2_with fail
  refine (pick_any B b K n w HH.out hK (by omega)).mono ?_
  rintro e w1 ⟨v1, rfl, a1, a2, s1, o1⟩
  have S1 := Lib.hid s1; have O1 := Lib.hid o1; clear s1 o1
  obtain ⟨k, rfl⟩ := Int.eq_ofNat_of_zero_le a1
  have hk : k < n := by have := a2 (by omega); omega
  have hcell : w1.cell? ⟨g, k, none⟩ = some (.int .i64 (wi xs k)) := by
    obtain ⟨g', off, e, hg', hc⟩ := HX.out.2 h0
    injection e with e
    injection e with e1 e2
    subst e1; subst e2
    have := hc k hk
    rw [Nat.zero_add] at this
    exact (cell_of_block (O1.out.2 g hlt (by omega)) _).trans this
  go_wp2
  go_ret
  exact ⟨k, rfl, hk, S1.out, O1.out⟩
end Go.Proofs.Ytebocaicebolaaa

/- Draws: numbers and lists of numbers, of any bits. -/
set_option linter.unusedVariables false
set_option linter.unusedSimpArgs false
namespace Go.Proofs.Ytebocaicebolaaa
open Fl Go.RowKit
set_option maxHeartbeats 4000000 in
set_option maxRecDepth 100000 in
theorem plain_any (B b K : Nat) (w : World) (h : Src B b K w) (hK : K ≤ 900000) :
    Calls Try.prog 87 #[.pointer (some ⟨b, 0, none⟩)] w fun e w' => ∃ q Q, e = .returned (.float .f32 q) ∧ Hid (Fv .f32 q Q) ∧ Src B b (K + 4) w' ∧ On b w w' := by
  have HH := Lib.hid h; clear h
  go_enter Try.func87, Try.ntmps87
  go_wp2_with fail
  refine (pick_any B b K 129 w HH.out (by omega) (by omega)).mono ?_
  rintro e w1 ⟨v1, rfl, a1, a2, s1, o1⟩
  have a3 := a2 (by omega)
  have S1 := Lib.hid s1; have O1 := Lib.hid o1; clear s1 o1 a2
  go_wp2_with fail
  refine (one_any B b (K + 2) 4 w1 S1.out (by omega) (by omega)).mono ?_
  rintro e w2 ⟨v2, rfl, s2, o2⟩
  have S2 := Lib.hid s2; have O2 := Lib.hid o2; clear s2 o2
  have q1 := fI_fv (v1 - 64)
  have q7 : Hid (Fv .f32 1088421888 (some 1088421888)) := fvc (by decide) (by decide)
  have q16 : Hid (Fv .f32 1098907648 (some 1098907648)) := fvc (by decide) (by decide)
  cases v2
  all_goals
    go_wp2_with (with_reducible_and_instances refine Lo.wpList_fo _ rfl _ _ _ _ _ rfl _ _ _ _ _ rfl rfl rfl (by assumption) (by assumption) ?_; intro rr nn hrr)
    go_ret
    exact ⟨_, _, rfl, hrr, S2.out.drewN _, (O1.out.trans O2.out).drewN _⟩
theorem is_alloc (w : World) (T : TypeId) (xs : List Int) : Is (w.alloc (.cells (xs.map (Value.int .i64)).toArray T)) (w.alloc (.cells (xs.map (Value.int .i64)).toArray T)).heap.size (some ⟨w.heap.size, 0, none⟩) xs.length xs :=
  ⟨rfl, fun _ => ⟨w.heap.size, 0, rfl, by simp, fun k hk => by
    have h := Go.Deep.blk_alloc_new w (.cells (xs.map (Value.int .i64)).toArray T)
    rw [Nat.zero_add]
    unfold World.cell?
    simp only [h]
    simp [hk, iv, wi]⟩⟩
def numsA : List Int := [0, 2147483648, 2139095040, 4286578688, 2143289344, 1, 2139095039, 8388608, 8388607, 2147483649]
def numsB : List Int := [8388608, 2130706432, 1610612736, 536870912]
theorem numsA_in : ∀ k, k < 10 → 0 ≤ wi numsA k ∧ wi numsA k < 4294967296 := by decide
theorem numsB_in : ∀ k, k < 4 → 0 ≤ wi numsB k ∧ wi numsB k < 4294967296 := by decide
theorem from_int (z : Int) (h0 : 0 ≤ z) (h1 : z < 4294967296) (w : World) : Calls Try.prog 104 #[.int .i64 z] w fun e w' => ∃ q, e = .returned (.float .f32 q) ∧ Hid (Fv .f32 q (ab .f32 q)) ∧ w = w' := by
  obtain ⟨m, rfl⟩ := Int.eq_ofNat_of_zero_le h0
  have hm : m < 4294967296 := by omega
  exact (l01From_any m w hm).mono fun e w' ⟨h1, h2⟩ => ⟨m, h1, Lib.hid ⟨hm, rfl⟩, h2⟩
set_option maxHeartbeats 4000000 in
set_option maxRecDepth 100000 in
theorem float_any (B b K : Nat) (w : World) (h : Src B b K w) (hK : K ≤ 800000) :
    Calls Try.prog 95 #[.pointer (some ⟨b, 0, none⟩)] w fun e w' => ∃ q Q, e = .returned (.float .f32 q) ∧ Hid (Fv .f32 q Q) ∧ Src B b (K + 12) w' ∧ On b w w' := by
  have HH := Lib.hid h
  have hlt := h.lt
  clear h
  go_enter Try.func95, Try.ntmps95
  go_wp2_with fail
  refine (one_any B b K 12 w HH.out (by omega) (by omega)).mono ?_
  rintro e w1 ⟨v1, rfl, s1, o1⟩
  have S1 := Lib.hid s1; have O1 := Lib.hid o1; clear s1 o1
  cases v1
  · go_wp2_with fail
    refine (plain_any B b (K + 2) w1 S1.out (by omega)).mono ?_
    rintro e w2 ⟨q, Q, rfl, hq, s2, o2⟩
    have S2 := Lib.hid s2; have O2 := Lib.hid o2; clear s2 o2
    go_wp2
    go_ret
    exact ⟨_, _, rfl, hq, S2.out.up (by omega), O1.out.trans O2.out⟩
  · go_wp2_with fail
    refine (pick_any B b (K + 2) 4 w1 S1.out (by omega) (by omega)).mono ?_
    rintro e w2 ⟨v, rfl, a1, a2, s2, o2⟩
    have a3 := a2 (by omega)
    have S2 := Lib.hid s2; have O2 := Lib.hid (O1.out.trans o2); clear s2 o2 a2
    have hlt2 : b < w2.heap.size := S2.out.lt
    by_cases h0 : v = 0
    · subst h0
      go_wp2_with fail
      generalize hW : World.alloc _ _ = W
      have X1 : Hid (Is W W.heap.size (some ⟨w2.heap.size, 0, none⟩) 10 numsA) := Lib.hid (by rw [← hW]; exact is_alloc w2 2 numsA)
      have Z1 : Hid (W.heap.size = w2.heap.size + 1) := Lib.hid (by rw [← hW]; simp)
      have O3 : Hid (On b w W) := Lib.hid (by rw [← hW]; exact O2.out.alloc (by omega) _)
      have S3 : Hid (Src B b (K + 4) W) := Lib.hid (S2.out.on (by rw [← hW]; exact (World.Since.refl _ _).alloc (by omega) _))
      clear hW
      have hz := Z1.out
      refine (among_any B b (K + 4) w2.heap.size 10 numsA W S3.out (by omega) X1.out (by omega) (by omega) hlt2 (by omega)).mono ?_
      rintro e w3 ⟨k, rfl, hk, s4, o4⟩
      have S4 := Lib.hid s4; have O4 := Lib.hid (O3.out.trans o4); clear s4 o4
      have hm := numsA_in k hk
      generalize wi numsA k = m at *
      go_wp2_with fail
      refine (from_int m hm.1 hm.2 _).mono ?_
      rintro e w5 ⟨q, rfl, hq, rfl⟩
      go_wp2
      go_ret
      exact ⟨_, _, rfl, hq, S4.out.up (by omega), O4.out⟩
    · by_cases h1 : v = 1
      · subst h1
        go_wp2_with fail
        refine (pick_any B b (K + 4) 65536 w2 S2.out (by omega) (by omega)).mono ?_
        rintro e w3 ⟨v3, rfl, b1, b2, s3, o3⟩
        have b3 := b2 (by omega)
        have S3 := Lib.hid s3; have O3 := Lib.hid (O2.out.trans o3); clear s3 o3 b2
        go_wp2_with fail
        refine (pick_any B b (K + 4 + 2) 65536 w3 S3.out (by omega) (by omega)).mono ?_
        rintro e w4 ⟨v4, rfl, c1, c2, s4, o4⟩
        have c3 := c2 (by omega)
        have S4 := Lib.hid s4; have O4 := Lib.hid (O3.out.trans o4); clear s4 o4 c2
        go_wp2_with fail
        refine (from_int (v3 * 65536 + v4) (by omega) (by omega) _).mono ?_
        rintro e w5 ⟨q, rfl, hq, rfl⟩
        go_wp2
        go_ret
        exact ⟨_, _, rfl, hq, S4.out.up (by omega), O4.out⟩
      · by_cases h2 : v = 2
        · subst h2
          go_wp2_with fail
          refine (pick_any B b (K + 4) 65536 w2 S2.out (by omega) (by omega)).mono ?_
          rintro e w3 ⟨v3, rfl, b1, b2, s3, o3⟩
          have b3 := b2 (by omega)
          have S3 := Lib.hid s3; have O3 := Lib.hid (O2.out.trans o3); clear s3 o3 b2
          go_wp2_with fail
          refine (from_int (v3 * 65536) (by omega) (by omega) _).mono ?_
          rintro e w5 ⟨q, rfl, hq, rfl⟩
          go_wp2
          go_ret
          exact ⟨_, _, rfl, hq, S3.out.up (by omega), O3.out⟩
        · have e0 : decide (v = 0) = false := decide_eq_false h0
          have e1 : decide (v = 1) = false := decide_eq_false h1
          have e2 : decide (v = 2) = false := decide_eq_false h2
          have g0 : (v == 0) = false := by simpa using h0
          have g1 : (v == 1) = false := by simpa using h1
          have g2 : (v == 2) = false := by simpa using h2
          go_wp2_with fail
          refine (plain_any B b (K + 4) w2 S2.out (by omega)).mono ?_
          rintro e w3 ⟨q, Q, rfl, hq, s3, o3⟩
          have S3 := Lib.hid s3; have O3 := Lib.hid (O2.out.trans o3); clear s3 o3
          have hlt3 : b < w3.heap.size := S3.out.lt
          go_wp2_with fail
          generalize hW : World.alloc _ _ = W
          have X1 : Hid (Is W W.heap.size (some ⟨w3.heap.size, 0, none⟩) 4 numsB) := Lib.hid (by rw [← hW]; exact is_alloc w3 2 numsB)
          have Z1 : Hid (W.heap.size = w3.heap.size + 1) := Lib.hid (by rw [← hW]; simp)
          have O5 : Hid (On b w W) := Lib.hid (by rw [← hW]; exact O3.out.alloc (by omega) _)
          have S5 : Hid (Src B b (K + 4 + 4) W) := Lib.hid (S3.out.on (by rw [← hW]; exact (World.Since.refl _ _).alloc (by omega) _))
          clear hW
          have hz := Z1.out
          refine (among_any B b (K + 4 + 4) w3.heap.size 4 numsB W S5.out (by omega) X1.out (by omega) (by omega) hlt3 (by omega)).mono ?_
          rintro e w6 ⟨k, rfl, hk, s6, o6⟩
          have S6 := Lib.hid s6; have O6 := Lib.hid (O5.out.trans o6); clear s6 o6
          have hm := numsB_in k hk
          generalize wi numsB k = m at *
          go_wp2_with fail
          refine (from_int m hm.1 hm.2 _).mono ?_
          rintro e w7 ⟨q2, rfl, hq2, rfl⟩
          go_wp2_with (with_reducible_and_instances refine Lo.wpList_fo _ rfl _ _ _ _ _ rfl _ _ _ _ _ rfl rfl rfl (by assumption) (by assumption) ?_; intro rr nn hrr)
          go_ret
          exact ⟨_, _, rfl, hrr, (S6.out.up (by omega)).drewN _, O6.out.drewN _⟩
end Go.Proofs.Ytebocaicebolaaa

/- Draws: lists of numbers, and what chooses by a byte. -/
set_option linter.unusedVariables false
set_option linter.unusedSimpArgs false
namespace Go.Proofs.Ytebocaicebolaaa
open Fl Go.RowKit
/-- a row of numbers whatever they are -/
def RwA (lo : Nat) (w : World) (v : Value) (k : Nat) : Prop := (∃ F, Rw lo w v k F) ∧ ∃ g c, v = .slice (some ⟨g, 0, none⟩) k c
theorem Rw.like {lo : Nat} {w : World} {v : Value} {k : Nat} {F G : Nat → O} (h : Rw lo w v k F) (e : ∀ j, j < k → F j = G j) : Rw lo w v k G := by
  obtain ⟨os, h1, h2, h3⟩ := h
  exact ⟨os, h1, h2, fun j hj => (h3 j hj).trans (e j hj)⟩
theorem Rw.fin {lo : Nat} {w : World} {v : Value} {k : Nat} {F : Nat → O} (h : Rw lo w v k F) : ∃ (A : Option Addr) (c : Nat) (xs : List Nat), v = .slice A k c ∧ k ≤ c ∧ (A = none → k = 0 ∧ c = 0) ∧ (∀ a, A = some a → ∃ g, a = ⟨g, 0, none⟩ ∧ lo ≤ g) ∧ Gs 22 w lo A k xs ∧ Are ⟨A, k, xs⟩ F := by
  obtain ⟨os, h1, hs, hf⟩ := h
  rcases h1.2 with ⟨rfl, rfl⟩ | ⟨g, cap, cur, rfl, hg, _, hk, _⟩
  · exact ⟨none, 0, os, rfl, Nat.le_refl _, fun _ => ⟨rfl, rfl⟩, (fun a h => by cases h), Gs.of_own h1 hs, hf⟩
  · exact ⟨some ⟨g, 0, none⟩, cap, os, rfl, hk, (fun h => by cases h), fun a h => by cases h; exact ⟨g, rfl, hg⟩, Gs.of_own h1 hs, hf⟩
theorem RwA.grown {lo : Nat} {w : World} {v : Value} {k : Nat} {F : Nat → O} (h : Rw lo w v (k + 1) F) : RwA lo w v (k + 1) := by
  refine ⟨⟨F, h⟩, ?_⟩
  obtain ⟨A, c, xs, rfl, _, hn, hs, _⟩ := h.fin
  cases A with
  | none => exact absurd (hn rfl).1 (by omega)
  | some a =>
    obtain ⟨g, rfl, _⟩ := hs a rfl
    exact ⟨g, c, rfl⟩
theorem RwA.end_ {lo : Nat} {w : World} {v : Value} {k : Nat} (h : RwA lo w v k) : ∃ g c xs, v = .slice (some ⟨g, 0, none⟩) k c ∧ k ≤ c ∧ Gs 22 w lo (some ⟨g, 0, none⟩) k xs := by
  obtain ⟨⟨F, hF⟩, g, c, rfl⟩ := h
  obtain ⟨A, c', xs, e, hc, _, _, hg, _⟩ := hF.fin
  injection e with e1 e2 e3
  subst e1; subst e3
  exact ⟨g, c, xs, rfl, hc, hg⟩
theorem RwA.pick {lo : Nat} {w : World} {v : Value} {k : Nat} (h : RwA lo w v k) (Q : O) : ∃ F, Rw lo w v k F ∧ F k = Q := by
  obtain ⟨⟨F, hF⟩, _⟩ := h
  exact ⟨fun j => if j = k then Q else F j, hF.like fun j hj => by simp [show j ≠ k by omega], by simp⟩
theorem RwA.on {lo g : Nat} {w w' : World} {v : Value} {k : Nat} (h : RwA lo w v k) (o : On g w w') (hg : g < lo) : RwA lo w' v k := by
  obtain ⟨⟨F, hF⟩, hv⟩ := h
  exact ⟨⟨F, hF.on o hg⟩, hv⟩
/-- numbers that a call has drawn: a list in memory of its own -/
def PDr (n : Nat) (w : World) (e : Ending) (w' : World) : Prop := ∃ (g c : Nat) (xs : List Nat), e = .returned (.slice (some ⟨g, 0, none⟩) n c) ∧ n ≤ c ∧ Gs 22 w' w.heap.size (some ⟨g, 0, none⟩) n xs ∧ w.Since w.heap.size w'
set_option maxHeartbeats 4000000 in
set_option maxRecDepth 100000 in
theorem floats_any (B b K N : Nat) (w : World) (h : Src B b K w) (hK : K ≤ 100000) (hN : N ≤ 10000) :
    Calls Try.prog 81 #[.pointer (some ⟨b, 0, none⟩), .int .i64 (N : Int)] w fun e w' => ∃ (g c : Nat) (xs : List Nat), e = .returned (.slice (some ⟨g, 0, none⟩) N c) ∧ N ≤ c ∧ Gs 22 w' w.heap.size (some ⟨g, 0, none⟩) N xs ∧ Src B b (K + 2 + 12 * N) w' ∧ On b w w' := by
  have HH := Lib.hid h
  have hlt := h.lt
  clear h
  go_enter Try.func81, Try.ntmps81
  go_wp2_with fail
  generalize hW : World.alloc _ _ = W
  have R1 : Hid (RwA w.heap.size W (.slice (some ⟨w.heap.size, 0, none⟩) 0 0) 0) := Lib.hid (by rw [← hW]; exact ⟨⟨fun _ => none, Rw.start w _ (Nat.le_refl _) _⟩, _, _, rfl⟩)
  have O1 : Hid (On b w W) := Lib.hid (by rw [← hW]; exact (On.refl _ _).alloc (by omega) _)
  have S1 : Hid (Src B b K W) := Lib.hid (HH.out.on (by rw [← hW]; exact (World.Since.refl _ _).alloc (by omega) _))
  clear hW
  refine (one_any B b K 4 W S1.out (by omega) (by omega)).mono ?_
  rintro e w1 ⟨st, rfl, s2, o2⟩
  have S2 := Lib.hid s2; have O2 := Lib.hid (O1.out.trans o2); have R2 := Lib.hid (R1.out.on o2 hlt); clear s2 o2 R1 O1 S1
  cases st
  all_goals
    go_wp2_with fail
    go_loopw [1, 5] (fun i v wr => ∃ k : Nat, k ≤ N ∧ i = .int .i64 ((N : Int) - k) ∧ RwA w.heap.size wr v k ∧ Src B b (K + 2 + 12 * k) wr ∧ On b w wr) (fun i _ _ => (intOf i).toNat)
    case atStart => exact ⟨0, Nat.zero_le _, by simp, R2.out, S2.out, O2.out⟩
    case round =>
      obtain ⟨k, hk, rfl, hr, hs, ho⟩ := hrel
      have HR := Lib.hid hr; have HS := Lib.hid hs; have HO := Lib.hid ho
      clear hr hs ho
      by_cases hlt2 : k < N
      · have hd : decide (0 < (N : Int) - k) = true := decide_eq_true (by omega)
        go_wp2_with fail
        first
        | refine (plain_any B b (K + 2 + 12 * k) wr HS.out (by omega)).mono ?_
        | refine (float_any B b (K + 2 + 12 * k) wr HS.out (by omega)).mono ?_
        rintro e w3 ⟨q, Q, rfl, hq, s3, o3⟩
        have S3 : Hid (Src B b (K + 2 + 12 * (k + 1)) w3) := Lib.hid (s3.up (by omega))
        have O3 := Lib.hid (HO.out.trans o3); have R3 := Lib.hid (HR.out.on o3 hlt)
        clear s3 o3
        obtain ⟨F, hF, hFk⟩ := R3.out.pick Q
        have hlo : w.heap.size ≤ w3.heap.size := O3.out.1.size
        have HF := Lib.hid hF; clear hF
        have hz : Hid (Fv .f32 q (F k)) := by rw [hFk]; exact hq
        have hlt3 : b < w3.heap.size := by omega
        go_wp2_with (first | (at_builtin; refine wpList_app1 rfl (.tmp 20) (.tmp 23) rfl w.heap.size _ k _ rfl _ _ rfl (by simp [go_sem]) (by omega) (by simp; omega) hz (HF.out.alloc _) ?_; intro v' w4 hR4 hS4) | (at_builtin; refine wpList_app1 rfl (.tmp 15) (.tmp 18) rfl w.heap.size _ k _ rfl _ _ rfl (by simp [go_sem]) (by omega) (by simp; omega) hz (HF.out.alloc _) ?_; intro v' w4 hR4 hS4))
        have hs4 : w3.Since w.heap.size w4 := ((World.Since.refl _ _).alloc hlo _).trans hS4.out
        have HS4 := Lib.hid hs4; clear hs4
        go_roundw
        case rel => exact ⟨k + 1, by omega, by go_num, RwA.grown hR4.out, S3.out.on (since_mono HS4.out (by omega)), on_post O3.out HS4.out (Nat.le_refl _) hlt⟩
        case measure => simp [intOf]; omega
      · have hd : decide (0 < (N : Int) - k) = false := decide_eq_false (by omega)
        obtain rfl : k = N := by omega
        obtain ⟨g, cp, zs, rfl, hcp, hg⟩ := HR.out.end_
        have HG := Lib.hid hg; clear hg
        go_wp2
        go_ret
        exact ⟨g, cp, zs, rfl, hcp, HG.out, HS.out, HO.out⟩
end Go.Proofs.Ytebocaicebolaaa

/- Draws: what laws draw of their bytes. -/
set_option linter.unusedVariables false
set_option linter.unusedSimpArgs false
namespace Go.Proofs.Ytebocaicebolaaa
open Fl Go.RowKit
theorem source_any (A : Option Addr) (n c : Nat) (xs : List Int) (w : World) (h : Bs w w.heap.size A n xs) (hn : n ≤ 1048576) :
    Calls Try.prog 77 #[.slice A n c] w fun e w' => e = .returned (.pointer (some ⟨w.heap.size, 0, none⟩)) ∧ Src w.heap.size w.heap.size 0 w' ∧ w.Since w.heap.size w' := by
  have HH := Lib.hid h; clear h
  go_enter Try.func77, Try.ntmps77
  go_wp2
  go_ret
  refine ⟨rfl, ⟨A, n, c, xs, 0, 0, Go.Deep.blk_alloc_new _ _, HH.out.since ((World.Since.refl _ _).alloc (Nat.le_refl _) _) (Nat.le_refl _), Nat.le_refl _, hn, by omega, by omega⟩, (World.Since.refl _ _).alloc (Nat.le_refl _) _⟩
set_option maxHeartbeats 4000000 in
set_option maxRecDepth 100000 in
theorem samples_any (A : Option Addr) (n c : Nat) (xs : List Int) (m : Nat) (w : World) (h : Bs w w.heap.size A n xs) (hn : n ≤ 1048576) (hm : m ≤ 9000) :
    Calls Try.prog 42 #[.slice A n c, .int .i64 (m : Int)] w fun e w' => ∃ k, k ≤ m ∧ PDr k w e w' := by
  have HH := Lib.hid h; clear h
  go_enter Try.func42, Try.ntmps42
  go_wp2_with fail
  refine (source_any A n c xs w HH.out hn).mono ?_
  rintro e w1 ⟨rfl, s1, t1⟩
  have S1 := Lib.hid s1; have T1 := Lib.hid t1; clear s1 t1
  go_wp2_with fail
  refine (pick_any w.heap.size w.heap.size 0 ((m : Int) + 1) w1 S1.out (by omega) (by omega)).mono ?_
  rintro e w2 ⟨v, rfl, a1, a2, s2, o2⟩
  have a3 := a2 (by omega)
  obtain ⟨k, rfl⟩ := Int.eq_ofNat_of_zero_le a1
  have S2 := Lib.hid s2; have T2 := Lib.hid (T1.out.trans (o2.since (Nat.le_refl _))); clear s2 o2
  go_wp2_with fail
  refine (floats_any w.heap.size w.heap.size 2 k w2 S2.out (by omega) (by omega)).mono ?_
  rintro e w3 ⟨g, cp, zs, rfl, hp, hg, s3, o3⟩
  have hz := T2.out.size
  have G3 := Lib.hid (hg.less hz); have T3 := Lib.hid (T2.out.trans (o3.since (Nat.le_refl _))); clear hg s3 o3
  go_wp2
  go_ret
  exact ⟨k, by omega, g, cp, zs, rfl, hp, G3.out, T3.out⟩
set_option maxHeartbeats 4000000 in
set_option maxRecDepth 100000 in
theorem plains_any (A : Option Addr) (n c : Nat) (xs : List Int) (m : Nat) (w : World) (h : Bs w w.heap.size A n xs) (hn : n ≤ 1048576) (hm : m ≤ 9000) :
    Calls Try.prog 56 #[.slice A n c, .int .i64 (m : Int)] w (PDr m w) := by
  have HH := Lib.hid h; clear h
  go_enter Try.func56, Try.ntmps56
  go_wp2_with fail
  refine (source_any A n c xs w HH.out hn).mono ?_
  rintro e w1 ⟨rfl, s1, t1⟩
  have S1 := Lib.hid s1; have T1 := Lib.hid t1; clear s1 t1
  go_wp2_with fail
  generalize hW : World.alloc _ _ = W
  have z1 := T1.out.size
  have R2 : Hid (RwA w1.heap.size W (.slice (some ⟨w1.heap.size, 0, none⟩) 0 0) 0) := Lib.hid (by rw [← hW]; exact ⟨⟨fun _ => none, Rw.start w1 _ (Nat.le_refl _) _⟩, _, _, rfl⟩)
  have S2 : Hid (Src w.heap.size w.heap.size 0 W) := Lib.hid (S1.out.on (by rw [← hW]; exact (World.Since.refl _ _).alloc (by have := S1.out.lt; omega) _))
  have O2 : Hid (On w.heap.size w1 W) := Lib.hid (by rw [← hW]; exact (On.refl _ _).alloc z1 _)
  have hl1 : w.heap.size < w1.heap.size := S1.out.lt
  clear hW
  go_loopw [6, 7] (fun v i wr => ∃ k : Nat, k ≤ m ∧ i = .int .i64 (k : Int) ∧ RwA w1.heap.size wr v k ∧ Src w.heap.size w.heap.size (4 * k) wr ∧ On w.heap.size w1 wr) (fun _ i _ => m - (intOf i).toNat)
  case atStart => exact ⟨0, Nat.zero_le _, rfl, R2.out, S2.out, O2.out⟩
  case round =>
    obtain ⟨k, hk, rfl, hr, hs, ho⟩ := hrel
    have HR := Lib.hid hr; have HS := Lib.hid hs; have HO := Lib.hid ho
    clear hr hs ho
    by_cases hlt2 : k < m
    · go_wp2_with fail
      refine (plain_any w.heap.size w.heap.size (4 * k) wr HS.out (by omega)).mono ?_
      rintro e w3 ⟨q, Q, rfl, hq, s3, o3⟩
      have S3 : Hid (Src w.heap.size w.heap.size (4 * (k + 1)) w3) := Lib.hid (s3.up (by omega))
      have O3 := Lib.hid (HO.out.trans o3); have R3 := Lib.hid (HR.out.on o3 hl1)
      clear s3 o3
      obtain ⟨F, hF, hFk⟩ := R3.out.pick Q
      have hlo : w1.heap.size ≤ w3.heap.size := O3.out.1.size
      have HF := Lib.hid hF; clear hF
      have hz : Hid (Fv .f32 q (F k)) := by rw [hFk]; exact hq
      go_wp2_with (at_builtin; refine wpList_app1 rfl (.tmp 16) (.tmp 19) rfl w1.heap.size _ k _ rfl _ _ rfl (by simp [go_sem]) (by omega) (by simp; omega) hz (HF.out.alloc _) ?_; intro v' w4 hR4 hS4)
      have hs4 : w3.Since w1.heap.size w4 := ((World.Since.refl _ _).alloc hlo _).trans hS4.out
      have HS4 := Lib.hid hs4; clear hs4
      go_roundw
      case rel => exact ⟨k + 1, by omega, by go_num, RwA.grown hR4.out, S3.out.on (since_mono HS4.out (by omega)), on_post O3.out HS4.out (Nat.le_refl _) hl1⟩
      case measure => simp [intOf]; omega
    · obtain rfl : k = m := by omega
      obtain ⟨g, cp, zs, rfl, hcp, hg⟩ := HR.out.end_
      have HG := Lib.hid (hg.less z1); clear hg
      have T3 : Hid (w.Since w.heap.size wr) := Lib.hid (T1.out.trans (HO.out.since (Nat.le_refl _)))
      go_wp2
      go_ret
      exact ⟨g, cp, zs, rfl, hcp, HG.out, T3.out⟩
/-- a number below m that a byte chooses -/
theorem r8At_any (A : Option Addr) (n c : Nat) (xs : List Int) (k m : Int) (w : World) (h : Bs w w.heap.size A n xs) (hk : 0 ≤ k) (hk2 : k ≤ 1000000000) :
    Calls Try.prog 43 #[.slice A n c, .int .i64 k, .int .i64 m] w fun e w' => ∃ v : Int, e = .returned (.int .i64 v) ∧ 0 ≤ v ∧ (1 ≤ m → v < m) ∧ w.Since w.heap.size w' := by
  have HH := Lib.hid h; clear h
  obtain ⟨j, rfl⟩ := Int.eq_ofNat_of_zero_le hk
  by_cases h1 : m ≤ 1
  · have hd : decide (m ≤ 1) = true := decide_eq_true h1
    go_enter Try.func43, Try.ntmps43
    go_wp2
    go_ret
    exact ⟨0, rfl, by omega, fun _ => by omega, by (repeat (first | (with_reducible refine Fl.sinDrew ?_) | (with_reducible refine World.Since.drew ?_) | (with_reducible refine Fl.sinSet ?_ ?_; rotate_left) | (with_reducible refine Fl.sinAlloc ?_ ?_; rotate_left) | with_reducible exact World.Since.refl _ _ | with_reducible assumption | (with_reducible refine Fl.sinStep (by with_reducible assumption) ?_))); all_goals (first | omega | (simp; done) | (simp; omega) | (simp [go_sem]; done) | (simp [go_sem]; omega))⟩
  · have hd : decide (m ≤ 1) = false := decide_eq_false h1
    by_cases h2 : (n : Int) ≤ (j : Int)
    · have hd2 : decide ((n : Int) ≤ (j : Int)) = true := decide_eq_true h2
      go_enter Try.func43, Try.ntmps43
      go_wp2
      go_ret
      exact ⟨0, rfl, by omega, fun _ => by omega, by (repeat (first | (with_reducible refine Fl.sinDrew ?_) | (with_reducible refine World.Since.drew ?_) | (with_reducible refine Fl.sinSet ?_ ?_; rotate_left) | (with_reducible refine Fl.sinAlloc ?_ ?_; rotate_left) | with_reducible exact World.Since.refl _ _ | with_reducible assumption | (with_reducible refine Fl.sinStep (by with_reducible assumption) ?_))); all_goals (first | omega | (simp; done) | (simp; omega) | (simp [go_sem]; done) | (simp [go_sem]; omega))⟩
    · have hd2 : decide ((n : Int) ≤ (j : Int)) = false := decide_eq_false h2
      obtain ⟨g, off, rfl, hg, hc⟩ := HH.out.2.2 (by omega)
      have hcell := hc j (by omega)
      have hv := HH.out.2.1 j
      have hz : m ≠ 0 := by omega
      clear hc
      go_enter Try.func43, Try.ntmps43
      go_wp2
      go_ret
      exact ⟨_, rfl, Int.emod_nonneg _ hz, fun _ => Int.emod_lt_of_pos _ (by omega), by (repeat (first | (with_reducible refine Fl.sinDrew ?_) | (with_reducible refine World.Since.drew ?_) | (with_reducible refine Fl.sinSet ?_ ?_; rotate_left) | (with_reducible refine Fl.sinAlloc ?_ ?_; rotate_left) | with_reducible exact World.Since.refl _ _ | with_reducible assumption | (with_reducible refine Fl.sinStep (by with_reducible assumption) ?_))); all_goals (first | omega | (simp; done) | (simp; omega) | (simp [go_sem]; done) | (simp [go_sem]; omega))⟩
theorem r8Long_any (A B : Option Addr) (n c m d : Nat) (b : Bool) (w : World) (h : (decide ((48 : Int) < n) || decide ((48 : Int) < m)) = b) :
    Calls Try.prog 39 #[.slice A n c, .slice B m d] w fun e w' => e = .returned (.bool b) ∧ w.Since w.heap.size w' := by
  subst h
  cases h1 : decide ((48 : Int) < n)
  all_goals
    go_enter Try.func39, Try.ntmps39
    go_wp2
    go_ret
    exact ⟨ret_bool (by simp), by (repeat (first | (with_reducible refine Fl.sinDrew ?_) | (with_reducible refine World.Since.drew ?_) | (with_reducible refine Fl.sinSet ?_ ?_; rotate_left) | (with_reducible refine Fl.sinAlloc ?_ ?_; rotate_left) | with_reducible exact World.Since.refl _ _ | with_reducible assumption | (with_reducible refine Fl.sinStep (by with_reducible assumption) ?_))); all_goals (first | omega | (simp; done) | (simp; omega) | (simp [go_sem]; done) | (simp [go_sem]; omega))⟩
end Go.Proofs.Ytebocaicebolaaa

/- Draws: lists that a law compares, and the bytes of a law. -/
set_option linter.unusedVariables false
set_option linter.unusedSimpArgs false
namespace Go.Proofs.Ytebocaicebolaaa
open Fl Go.RowKit
set_option maxHeartbeats 8000000 in
theorem r8Same_any (A C : Option Addr) (n c d : Nat) (xs ys : List Nat) (w : World) (ha : Fs w w.heap.size A n xs) (hc : Fs w w.heap.size C n ys) (hn : n ≤ 1048576)
    (hs : ∀ k, k < n → ab .f32 (wd xs k) = ab .f32 (wd ys k)) :
    Calls Try.prog 44 #[.slice A n c, .slice C n d] w fun e w' => e = .returned (.bool true) ∧ w.Since w.heap.size w' := by
  have HA := Lib.hid ha
  have HC := Lib.hid hc
  have HS := Lib.hid hs
  clear ha hc hs
  go_enter Try.func44, Try.ntmps44
  go_wp2
  go_loopw [5] (fun i wr => ∃ k : Nat, k ≤ n ∧ i = .int .i64 k ∧ w.Since w.heap.size wr) (fun i _ => n - (intOf i).toNat)
  case atStart => exact ⟨0, Nat.zero_le _, rfl, World.Since.refl _ _⟩
  case round =>
    obtain ⟨k, hk, rfl, hs⟩ := hrel
    have HT := Lib.hid hs; clear hs
    by_cases hlt : k < n
    · obtain ⟨g, off, rfl, hg, hc1⟩ := HA.out.2.2 (by omega)
      obtain ⟨g', off', rfl, hg', hc2⟩ := HC.out.2.2 (by omega)
      have hcell : wr.cell? ⟨g, off + k, none⟩ = some (.float .f32 (wd xs k)) := (HT.out.cell (a := ⟨g, off + k, none⟩) hg).trans (hc1 k hlt)
      have hcell2 : wr.cell? ⟨g', off' + k, none⟩ = some (.float .f32 (wd ys k)) := (HT.out.cell (a := ⟨g', off' + k, none⟩) hg').trans (hc2 k hlt)
      have hw1 := HA.out.2.1.at_ k
      have hw2 := HC.out.2.1.at_ k
      have he : decide (bitsO (ab .f32 (wd xs k)) = bitsO (ab .f32 (wd ys k))) = true := decide_eq_true (by rw [HS.out k hlt])
      clear hc1 hc2
      go_wp2
      have HQ : Hid (∀ v : World, Calls Try.prog 47 #[.float .f32 (wd xs k), .float .f32 (wd ys k)] v fun e v' => e = .returned (.bool true) ∧ v' = v) := Lib.hid fun v => (implSame_any _ _ _ hw1 hw2).mono fun e v' ⟨h1, h2⟩ => ⟨by rw [h1, he], h2.symm⟩
      go_quiet (first | (go_at_call 47; refine Calls.quiet_of_same (HQ.out _)))
      go_wp2
      go_roundw
      case rel => exact ⟨k + 1, by omega, by go_num, since_drewN HT.out _⟩
      case measure => simp [intOf]; omega
    · go_wp2
      go_ret
      exact ⟨rfl, HT.out⟩
namespace Fl
open Go.ChangeShapes Go.WideShapes Go.RowKit Go.WideMaps Go.WideElems
section
variable {H : Type} {enc : TypeId × Value → H} {P : Program}
theorem open_bs {W : World} {base b0 : Nat} {r : Reach} {t e : TypeId} {v : Value} {d : DataW H} {ps : List MemPlace} (ht : P.underlying t = some (.slice e)) (he : P.underlying e = some (.int .u8)) (hc : P.cellsOf e = 1)
    (hval : Value.okWide P W r b0 t v) (h : DataW.Trod enc P W base (fun _ => true) true t v d ps) :
    ∃ (A : Option Addr) (n c : Nat) (xs : List Int), v = .slice A n c ∧ Bs W W.heap.size A n xs ∧ n ≤ 9223372036854775807 := by
  obtain ⟨A, n, c, rfl⟩ := okWide_slice ht hval
  obtain ⟨fuel, hf⟩ := h
  rcases Go.Deep.open_slice ht hf with ⟨hcs, _⟩ | ⟨a, len, cap, m, k, D, Pl, hcs, _, hl, hm, hmm, _, hi⟩
  · simp only [Value.cells, Array.toList] at hcs
    injection hcs with hcs _
    injection hcs with h1 h2 h3
    subst h1; subst h2; subst h3
    exact ⟨none, 0, 0, [], rfl, ⟨rfl, (fun k => by simp [wi]), (fun h => by omega)⟩, by omega⟩
  · simp only [Value.cells, Array.toList] at hcs
    injection hcs with hcs _
    injection hcs with h1 h2 h3
    subst h1; subst h2; subst h3
    rw [if_pos rfl] at hmm
    subst hmm
    have hcell : ∀ i, i < m → ∃ b : Int, W.cell? (a.add i) = some (.int .u8 b) ∧ (Lit.int .u8 b).wf = true := by
      intro i him
      obtain ⟨cs', hcs', htr⟩ := hi i him
      rw [hc, Nat.mul_one] at hcs'
      obtain ⟨_, hlen, hat⟩ := World.cells?_some hcs'
      obtain ⟨b, hb, hw⟩ := trod_in he htr
      have h0 := hat 0 (by omega)
      rw [hb] at h0
      refine ⟨b, ?_, hw⟩
      have e : (a.add i).add 0 = a.add i := by simp [Addr.add]
      rw [e] at h0
      exact h0
    let f : Nat → Int := fun i => if h : i < m then Classical.choose (hcell i h) else 0
    have hfs : ∀ i (h : i < m), W.cell? (a.add i) = some (.int .u8 (f i)) ∧ (Lit.int .u8 (f i)).wf = true := by
      intro i h
      have := Classical.choose_spec (hcell i h)
      simp only [f, dif_pos h]
      exact this
    have hw8 : ∀ i, 0 ≤ f i ∧ f i < 256 := by
      intro i
      by_cases h : i < m
      · have h1 := (hfs i h).2
        simp only [Lit.wf, Bool.and_eq_true, decide_eq_true_eq] at h1
        have e1 : IntKind.min .u8 = 0 := by kernel_rfl
        have e2 : IntKind.max .u8 = 255 := by kernel_rfl
        rw [e1, e2] at h1
        omega
      · simp [f, h]
    refine ⟨some a, n, m, (List.range n).map f, rfl, ⟨by simp, ?_, ?_⟩, by unfold maxLen at hm; omega⟩
    · intro k
      unfold wi
      by_cases hk : k < n
      · simpa [hk] using hw8 k
      · simp [hk]
    · intro hn
      obtain ⟨g, off, spot⟩ := a
      have h0 := (hfs 0 (by omega)).1
      have hspot : spot = none := by simpa [Addr.add] using World.cell?_spot h0
      subst hspot
      refine ⟨g, off, rfl, ?_, fun k hk => ?_⟩
      · have h1 : W.cell? ⟨g, off, none⟩ = some (.int .u8 (f 0)) := by simpa [Addr.add] using h0
        rcases Nat.lt_or_ge g W.heap.size with h2 | h2
        · exact h2
        · simp [World.cell?, Array.getElem?_eq_none h2] at h1
      · have h1 := (hfs k (by omega)).1
        rw [Go.WideShapes.add_plain] at h1
        rw [h1]
        unfold wi
        simp [hk]
end
end Fl
end Go.Proofs.Ytebocaicebolaaa

/- Draws: filters and memories of any numbers. -/
set_option linter.unusedVariables false
set_option linter.unusedSimpArgs false
namespace Go.Proofs.Ytebocaicebolaaa
open Fl Go.RowKit
set_option maxHeartbeats 4000000 in
set_option maxRecDepth 100000 in
theorem drawNum_any (B b K : Nat) (w : World) (h : Src B b K w) (hK : K ≤ 700000) :
    Calls Try.prog 93 #[.pointer (some ⟨b, 0, none⟩)] w fun e w' => ∃ q Q, e = .returned (.float .f32 q) ∧ Hid (Fv .f32 q Q) ∧ Src B b (K + 14) w' ∧ On b w w' := by
  have HH := Lib.hid h; clear h
  go_enter Try.func93, Try.ntmps93
  go_wp2_with fail
  refine (one_any B b K 8 w HH.out (by omega) (by omega)).mono ?_
  rintro e w1 ⟨v1, rfl, s1, o1⟩
  have S1 := Lib.hid s1; have O1 := Lib.hid o1; clear s1 o1
  cases v1
  · go_wp2_with fail
    refine (one_any B b (K + 2) 3 w1 S1.out (by omega) (by omega)).mono ?_
    rintro e w2 ⟨v2, rfl, s2, o2⟩
    have S2 := Lib.hid s2; have O2 := Lib.hid (O1.out.trans o2); clear s2 o2
    cases v2
    · go_wp2_with fail
      refine (pick_any B b (K + 2 + 2) 33 w2 S2.out (by omega) (by omega)).mono ?_
      rintro e w3 ⟨v3, rfl, a1, a2, s3, o3⟩
      have a3 := a2 (by omega)
      have S3 := Lib.hid s3; have O3 := Lib.hid (O2.out.trans o3); clear s3 o3 a2
      have q1 := fI_fv (v3 - 16)
      have q8 : Hid (Fv .f32 1090519040 (some 1090519040)) := fvc (by decide) (by decide)
      go_wp2_with (with_reducible_and_instances refine Lo.wpList_fo _ rfl _ _ _ _ _ rfl _ _ _ _ _ rfl rfl rfl (by assumption) (by assumption) ?_; intro rr nn hrr)
      go_ret
      exact ⟨_, _, rfl, hrr, (S3.out.up (by omega)).drewN _, O3.out.drewN _⟩
    · go_wp2
      go_ret
      exact ⟨_, _, rfl, fv0, S2.out.up (by omega), O2.out⟩
  · go_wp2_with fail
    refine (float_any B b (K + 2) w1 S1.out (by omega)).mono ?_
    rintro e w2 ⟨q, Q, rfl, hq, s2, o2⟩
    have S2 := Lib.hid s2; have O2 := Lib.hid (O1.out.trans o2); clear s2 o2
    go_wp2
    go_ret
    exact ⟨_, _, rfl, hq, S2.out, O2.out⟩
/-- a filter's block -/
def FilB (T : TypeId) (w : World) (b : Nat) (f : FilN) : Prop := w.heap[b]? = some (.cells #[.float .f32 f.b0, .float .f32 f.b1, .float .f32 f.b2, .float .f32 f.a1, .float .f32 f.a2] T (0, 0))
section
variable {T : TypeId} {w w' : World} {b : Nat} {f : FilN}
theorem FilB.lt (h : FilB T w b f) : b < w.heap.size := (Array.getElem?_eq_some_iff.1 h).1
theorem FilB.c0 (h : FilB T w b f) : w.cell? ⟨b, 0, none⟩ = some (.float .f32 f.b0) := by unfold FilB at h; simp [World.cell?, h]
theorem FilB.c1 (h : FilB T w b f) : w.cell? ⟨b, 1, none⟩ = some (.float .f32 f.b1) := by unfold FilB at h; simp [World.cell?, h]
theorem FilB.c2 (h : FilB T w b f) : w.cell? ⟨b, 2, none⟩ = some (.float .f32 f.b2) := by unfold FilB at h; simp [World.cell?, h]
theorem FilB.c3 (h : FilB T w b f) : w.cell? ⟨b, 3, none⟩ = some (.float .f32 f.a1) := by unfold FilB at h; simp [World.cell?, h]
theorem FilB.c4 (h : FilB T w b f) : w.cell? ⟨b, 4, none⟩ = some (.float .f32 f.a2) := by unfold FilB at h; simp [World.cell?, h]
theorem FilB.free (h : FilB T w b f) (q : Nat) : w.frozen? ⟨b, q, none⟩ = false := by unfold FilB at h; simp [World.frozen?, h]
theorem FilB.of (h : FilB T w b f) (e : w'.heap[b]? = w.heap[b]?) : FilB T w' b f := e.trans h
theorem FilB.since {B : Nat} (h : FilB T w b f) (s : w.Since B w') (hb : b < B) : FilB T w' b f := h.of (s.block b hb)
theorem FilB.on {g : Nat} (h : FilB T w b f) (s : On g w w') (hb : b ≠ g) : FilB T w' b f := h.of (s.2 b h.lt hb)
theorem FilB.s1 (h : FilB T w b f) (x : Nat) : FilB T (w.setCell ⟨b, 1, none⟩ (.float .f32 x)) b ⟨f.b0, x, f.b2, f.a1, f.a2⟩ := by unfold FilB at h ⊢; simp [World.setCell, Array.getElem?_modify, h]
theorem FilB.s2 (h : FilB T w b f) (x : Nat) : FilB T (w.setCell ⟨b, 2, none⟩ (.float .f32 x)) b ⟨f.b0, f.b1, x, f.a1, f.a2⟩ := by unfold FilB at h ⊢; simp [World.setCell, Array.getElem?_modify, h]
theorem FilB.s3 (h : FilB T w b f) (x : Nat) : FilB T (w.setCell ⟨b, 3, none⟩ (.float .f32 x)) b ⟨f.b0, f.b1, f.b2, x, f.a2⟩ := by unfold FilB at h ⊢; simp [World.setCell, Array.getElem?_modify, h]
theorem FilB.s4 (h : FilB T w b f) (x : Nat) : FilB T (w.setCell ⟨b, 4, none⟩ (.float .f32 x)) b ⟨f.b0, f.b1, f.b2, f.a1, x⟩ := by unfold FilB at h ⊢; simp [World.setCell, Array.getElem?_modify, h]
theorem FilB.all (h : FilB T w b f) (x y z u v : Nat) : FilB T (((((w.setCell ⟨b, 0, none⟩ (.float .f32 x)).setCell ⟨b, 1, none⟩ (.float .f32 y)).setCell ⟨b, 2, none⟩ (.float .f32 z)).setCell ⟨b, 3, none⟩ (.float .f32 u)).setCell ⟨b, 4, none⟩ (.float .f32 v)) b ⟨x, y, z, u, v⟩ := by unfold FilB at h ⊢; simp [World.setCell, Array.getElem?_modify, h]
theorem FilB.new (T : TypeId) (w : World) (x y z u v : Nat) : FilB T (w.alloc (.cells #[.float .f32 x, .float .f32 y, .float .f32 z, .float .f32 u, .float .f32 v] T)) w.heap.size ⟨x, y, z, u, v⟩ := Go.Deep.blk_alloc_new _ _
theorem FilB.at_ (h : FilB T w b f) : FilAt w b f := ⟨h.lt, h.c0, h.c1, h.c2, h.c3, h.c4⟩
theorem FilB.row (h : FilB T w b f) : w.rangeAt b 0 [.float .f32 f.b0, .float .f32 f.b1, .float .f32 f.b2, .float .f32 f.a1, .float .f32 f.a2] := by
  intro j x hj
  rw [Nat.zero_add]
  unfold FilB at h
  simp only [World.cell?, h]
  simpa using hj
theorem MemB.row {m : MemN} (h : MemB T w b m) : w.rangeAt b 0 [.float .f32 m.a, .float .f32 m.b, .float .f32 m.c, .float .f32 m.d] := by
  intro j x hj
  rw [Nat.zero_add]
  unfold MemB at h
  simp only [World.cell?, h]
  simpa using hj
theorem MemB.on {g : Nat} {m : MemN} (h : MemB T w b m) (s : On g w w') (hb : b ≠ g) : MemB T w' b m := h.of (s.2 b h.lt hb)
theorem MemB.t1 {m : MemN} (h : MemB T w b m) (x : Nat) : MemB T (w.setCell ⟨b, 1, none⟩ (.float .f32 x)) b ⟨m.a, x, m.c, m.d⟩ := by unfold MemB at h ⊢; simp [World.setCell, Array.getElem?_modify, h]
theorem MemB.t2 {m : MemN} (h : MemB T w b m) (x : Nat) : MemB T (w.setCell ⟨b, 2, none⟩ (.float .f32 x)) b ⟨m.a, m.b, x, m.d⟩ := by unfold MemB at h ⊢; simp [World.setCell, Array.getElem?_modify, h]
theorem MemB.t3 {m : MemN} (h : MemB T w b m) (x : Nat) : MemB T (w.setCell ⟨b, 3, none⟩ (.float .f32 x)) b ⟨m.a, m.b, m.c, x⟩ := by unfold MemB at h ⊢; simp [World.setCell, Array.getElem?_modify, h]
end
/-- what a call that has a block of its own changes -/
theorem Fl.On.own {b g : Nat} {w a : World} (h : On b w a) (hg : w.heap.size ≤ g) (hb : b < w.heap.size) (o : Nat) (v : Value) : On b w (a.setCell ⟨g, o, none⟩ v) :=
  on_post h ((World.Since.refl _ _).setCell (Nat.le_refl _) _) hg hb
theorem Src.own {B b K g : Nat} {w : World} (h : Src B b K w) (hg : b < g) (o : Nat) (v : Value) : Src B b K (w.setCell ⟨g, o, none⟩ v) :=
  h.on ((World.Since.refl _ _).setCell (show b + 1 ≤ g by omega) _)
theorem off_own {g r o : Nat} {v : Value} {w : World} (h : r ≠ g) : (w.setCell ⟨g, o, none⟩ v).heap[r]? = w.heap[r]? := Go.Deep.blk_setCell_other _ _ _ _ h
/-- a filter, a memory that was drawn -/
def PFil (B b K : Nat) (w : World) (e : Ending) (w' : World) : Prop := ∃ (f : FilN) (F : Fil), e = .returned f.val ∧ FvF f F ∧ Src B b K w' ∧ On b w w'
def PMem (B b K : Nat) (w : World) (e : Ending) (w' : World) : Prop := ∃ (f : MemN) (F : Mem), e = .returned f.val ∧ FvM f F ∧ Src B b K w' ∧ On b w w'
def PFilW (w : World) (e : Ending) (w' : World) : Prop := ∃ (f : FilN) (F : Fil), e = .returned f.val ∧ FvF f F ∧ w.Since w.heap.size w'
def PMemW (w : World) (e : Ending) (w' : World) : Prop := ∃ (f : MemN) (F : Mem), e = .returned f.val ∧ FvM f F ∧ w.Since w.heap.size w'
set_option maxHeartbeats 4000000 in
set_option maxRecDepth 100000 in
theorem drawFil_any (B b K : Nat) (w : World) (h : Src B b K w) (hK : K ≤ 500000) :
    Calls Try.prog 78 #[.pointer (some ⟨b, 0, none⟩)] w (PFil B b (K + 80) w) := by
  have HH := Lib.hid h
  have hlt := h.lt
  clear h
  have q8 : Hid (Fv .f32 1090519040 (some 1090519040)) := fvc (by decide) (by decide)
  go_enter Try.func78, Try.ntmps78
  go_wp2_with fail
  generalize hW : World.alloc w _ = W0
  have z0 : W0.heap.size = w.heap.size + 1 := by rw [← hW]; simp
  have R0 : Hid (FilB 31 W0 w.heap.size ⟨0, 0, 0, 0, 0⟩) := Lib.hid (by rw [← hW]; exact FilB.new _ _ _ _ _ _ _)
  have O0 : Hid (On b w W0) := Lib.hid (by rw [← hW]; exact (On.refl _ _).alloc (by omega) _)
  have S0 : Hid (Src B b K W0) := Lib.hid (HH.out.on (by rw [← hW]; exact (World.Since.refl _ _).alloc (by omega) _))
  clear hW
  refine (drawNum_any B b K W0 S0.out (by omega)).mono ?_
  rintro e w1 ⟨b0, Q0, rfl, h0, s1, o1⟩
  have z1 : W0.heap.size ≤ w1.heap.size := o1.1.size
  have R1 := Lib.hid (R0.out.on o1 (by omega)); have O1 := Lib.hid (O0.out.trans o1); have S1 := Lib.hid s1
  clear s1 o1 R0 O0 S0
  go_wp2_with fail
  generalize hW : World.alloc w1 _ = W1
  obtain ⟨q, hq⟩ : ∃ q, q = w1.heap.size := ⟨_, rfl⟩
  rw [← hq]
  have y1 : W1.heap.size = q + 1 := by rw [← hW, hq]; simp
  have F1 : Hid (FilB 31 W1 q ⟨b0, 0, 0, 0, 0⟩) := Lib.hid (by rw [← hW, hq]; exact FilB.new _ _ _ _ _ _ _)
  have hs : w1.Since w1.heap.size W1 := by rw [← hW]; exact (World.Since.refl _ _).alloc (Nat.le_refl _) _
  have R2 := Lib.hid (R1.out.since hs (by omega)); have O2 := Lib.hid (on_post O1.out hs (by omega) hlt); have S2 := Lib.hid (S1.out.on (since_mono hs (by omega)))
  have hqb : b < q := by omega
  have hqr : w.heap.size < q := by omega
  clear hq
  clear hW hs R1 O1 S1
  refine (drawNum_any B b (K + 14) W1 S2.out (by omega)).mono ?_
  rintro e w2 ⟨b1, Qb1, rfl, hb1, s, o⟩
  have zz : W1.heap.size ≤ w2.heap.size := o.1.size
  have F2a := Lib.hid (F1.out.on o (by omega)); have R2a := Lib.hid (R2.out.on o (by omega)); have O2a := Lib.hid (O2.out.trans o); have S2a := Lib.hid s
  clear s o F1 R2 O2 S2
  have cc := F2a.out.c1; have ff := F2a.out.free 1
  go_wp2_with fail
  generalize hW : World.setCell _ _ _ = V2
  have F2 : Hid (FilB 31 V2 q ⟨b0, b1, 0, 0, 0⟩) := Lib.hid (by rw [← hW]; exact F2a.out.s1 _)
  have R2 : Hid (FilB 31 V2 w.heap.size ⟨0, 0, 0, 0, 0⟩) := Lib.hid (by rw [← hW]; exact R2a.out.of (off_own (by omega)))
  have O2 : Hid (On b w V2) := Lib.hid (by rw [← hW]; exact O2a.out.own (by omega) hlt _ _)
  have S2 : Hid (Src B b (K + 14 + 14) V2) := Lib.hid (by rw [← hW]; exact S2a.out.own hqb _ _)
  have zv : V2.heap.size = w2.heap.size := by rw [← hW]; simp
  clear hW cc ff F2a R2a O2a S2a
  refine (drawNum_any B b (K + 14 + 14) V2 S2.out (by omega)).mono ?_
  rintro e w3 ⟨b2, Qb2, rfl, hb2, s, o⟩
  have zz : V2.heap.size ≤ w3.heap.size := o.1.size
  have F3a := Lib.hid (F2.out.on o (by omega)); have R3a := Lib.hid (R2.out.on o (by omega)); have O3a := Lib.hid (O2.out.trans o); have S3a := Lib.hid s
  clear s o F2 R2 O2 S2
  have cc := F3a.out.c2; have ff := F3a.out.free 2
  go_wp2_with fail
  generalize hW : World.setCell _ _ _ = V3
  have F3 : Hid (FilB 31 V3 q ⟨b0, b1, b2, 0, 0⟩) := Lib.hid (by rw [← hW]; exact F3a.out.s2 _)
  have R3 : Hid (FilB 31 V3 w.heap.size ⟨0, 0, 0, 0, 0⟩) := Lib.hid (by rw [← hW]; exact R3a.out.of (off_own (by omega)))
  have O3 : Hid (On b w V3) := Lib.hid (by rw [← hW]; exact O3a.out.own (by omega) hlt _ _)
  have S3 : Hid (Src B b (K + 14 + 14 + 14) V3) := Lib.hid (by rw [← hW]; exact S3a.out.own hqb _ _)
  have zv : V3.heap.size = w3.heap.size := by rw [← hW]; simp
  clear hW cc ff F3a R3a O3a S3a
  refine (pick_any B b (K + 14 + 14 + 14) 15 V3 S3.out (by omega) (by omega)).mono ?_
  rintro e w4 ⟨va1, rfl, u1, u2, s, o⟩
  have u3 := u2 (by omega)
  clear u2
  have zz : V3.heap.size ≤ w4.heap.size := o.1.size
  have F4a := Lib.hid (F3.out.on o (by omega)); have R4a := Lib.hid (R3.out.on o (by omega)); have O4a := Lib.hid (O3.out.trans o); have S4a := Lib.hid s
  clear s o F3 R3 O3 S3
  have cc := F4a.out.c3; have ff := F4a.out.free 3
  have qq := fI_fv (va1 - 7)
  go_wp2_with (with_reducible_and_instances refine Lo.wpList_fo _ rfl _ _ _ _ _ rfl _ _ _ _ _ rfl rfl rfl (by assumption) (by assumption) ?_; intro rr nn hrr)
  obtain ⟨a1, hnm⟩ : ∃ r, r = rr := ⟨_, rfl⟩
  obtain ⟨Qa1, hQ⟩ : ∃ Q, Q = opO .quo .f32 (some (fI (va1 - 7))) (some 1090519040) := ⟨_, rfl⟩
  have ha1 : Hid (Fv .f32 a1 Qa1) := by rw [hnm, hQ]; exact hrr
  rw [← hnm]
  clear hnm hQ hrr qq u1 u3
  generalize hW : World.drewN _ _ = V4
  have F4 : Hid (FilB 31 V4 q ⟨b0, b1, b2, a1, 0⟩) := Lib.hid (by rw [← hW]; exact FilB.of (F4a.out.s3 _) rfl)
  have R4 : Hid (FilB 31 V4 w.heap.size ⟨0, 0, 0, 0, 0⟩) := Lib.hid (by rw [← hW]; exact FilB.of (w := w4.setCell ⟨q, 3, none⟩ (.float .f32 a1)) (R4a.out.of (off_own (by omega))) rfl)
  have O4 : Hid (On b w V4) := Lib.hid (by rw [← hW]; exact (O4a.out.own (by omega) hlt _ _).drewN _)
  have S4 : Hid (Src B b (K + 14 + 14 + 14 + 2) V4) := Lib.hid (by rw [← hW]; exact (S4a.out.own hqb _ _).drewN _)
  have zv : V4.heap.size = w4.heap.size := by rw [← hW]; exact Go.Deep.nblk_setCell _ _ _
  clear hW cc ff F4a R4a O4a S4a
  refine (pick_any B b (K + 14 + 14 + 14 + 2) 7 V4 S4.out (by omega) (by omega)).mono ?_
  rintro e w5 ⟨va2, rfl, u1, u2, s, o⟩
  have u3 := u2 (by omega)
  clear u2
  have zz : V4.heap.size ≤ w5.heap.size := o.1.size
  have F5a := Lib.hid (F4.out.on o (by omega)); have R5a := Lib.hid (R4.out.on o (by omega)); have O5a := Lib.hid (O4.out.trans o); have S5a := Lib.hid s
  clear s o F4 R4 O4 S4
  have cc := F5a.out.c4; have ff := F5a.out.free 4
  have qq := fI_fv (va2 - 3)
  go_wp2_with (with_reducible_and_instances refine Lo.wpList_fo _ rfl _ _ _ _ _ rfl _ _ _ _ _ rfl rfl rfl (by assumption) (by assumption) ?_; intro rr nn hrr)
  obtain ⟨a2, hnm⟩ : ∃ r, r = rr := ⟨_, rfl⟩
  obtain ⟨Qa2, hQ⟩ : ∃ Q, Q = opO .quo .f32 (some (fI (va2 - 3))) (some 1090519040) := ⟨_, rfl⟩
  have ha2 : Hid (Fv .f32 a2 Qa2) := by rw [hnm, hQ]; exact hrr
  rw [← hnm]
  clear hnm hQ hrr qq u1 u3
  generalize hW : World.drewN _ _ = V5
  have F5 : Hid (FilB 31 V5 q ⟨b0, b1, b2, a1, a2⟩) := Lib.hid (by rw [← hW]; exact FilB.of (F5a.out.s4 _) rfl)
  have R5 : Hid (FilB 31 V5 w.heap.size ⟨0, 0, 0, 0, 0⟩) := Lib.hid (by rw [← hW]; exact FilB.of (w := w5.setCell ⟨q, 4, none⟩ (.float .f32 a2)) (R5a.out.of (off_own (by omega))) rfl)
  have O5 : Hid (On b w V5) := Lib.hid (by rw [← hW]; exact (O5a.out.own (by omega) hlt _ _).drewN _)
  have S5 : Hid (Src B b (K + 14 + 14 + 14 + 2 + 2) V5) := Lib.hid (by rw [← hW]; exact (S5a.out.own hqb _ _).drewN _)
  have zv : V5.heap.size = w5.heap.size := by rw [← hW]; exact Go.Deep.nblk_setCell _ _ _
  clear hW cc ff F5a R5a O5a S5a
  refine (one_any B b (K + 14 + 14 + 14 + 2 + 2) 4 V5 S5.out (by omega) (by omega)).mono ?_
  rintro e w6 ⟨c3, rfl, s, o⟩
  have zz : V5.heap.size ≤ w6.heap.size := o.1.size
  have F6 := Lib.hid (F5.out.on o (by omega)); have R6 := Lib.hid (R5.out.on o (by omega)); have O6 := Lib.hid (O5.out.trans o); have S6 := Lib.hid s
  clear s o F5 R5 O5 S5
  cases c3
  case' false =>
    go_wp2_with fail
    have F7 := F6; have R7 := R6; have O7 := O6; have S7 := Lib.hid (S6.out.up (K' := K + 14 + 14 + 14 + 2 + 2 + 2 + 14) (by omega))
    have zw : q < w6.heap.size := by omega
    clear F6 R6 O6 S6 zz
    obtain ⟨V7, hz1⟩ : ∃ v, v = w6 := ⟨_, rfl⟩; subst hz1
    obtain ⟨ya1, Ya1, hya1, F7⟩ : ∃ x X, Hid (Fv .f32 x X) ∧ Hid (FilB 31 V7 q ⟨b0, b1, b2, x, a2⟩) := ⟨_, _, ha1, F7⟩
  case' true =>
    go_wp2_with fail
    refine (drawNum_any B b (K + 14 + 14 + 14 + 2 + 2 + 2) w6 S6.out (by omega)).mono ?_
    rintro e w7 ⟨na1, Qn, rfl, hn, s, o⟩
    have zz2 : w6.heap.size ≤ w7.heap.size := o.1.size
    have Fa := Lib.hid (F6.out.on o (by omega)); have Ra := Lib.hid (R6.out.on o (by omega)); have Oa := Lib.hid (O6.out.trans o); have Sa := Lib.hid s
    clear s o F6 R6 O6 S6
    have cc := Fa.out.c3; have ff := Fa.out.free 3
    go_wp2_with fail
    generalize hW : World.setCell _ _ _ = V7
    have F7 : Hid (FilB 31 V7 q ⟨b0, b1, b2, na1, a2⟩) := Lib.hid (by rw [← hW]; exact Fa.out.s3 _)
    have R7 : Hid (FilB 31 V7 w.heap.size ⟨0, 0, 0, 0, 0⟩) := Lib.hid (by rw [← hW]; exact Ra.out.of (off_own (by omega)))
    have O7 : Hid (On b w V7) := Lib.hid (by rw [← hW]; exact Oa.out.own (by omega) hlt _ _)
    have S7 : Hid (Src B b (K + 14 + 14 + 14 + 2 + 2 + 2 + 14) V7) := Lib.hid (by rw [← hW]; exact Sa.out.own hqb _ _)
    have zv2 : V7.heap.size = w7.heap.size := by rw [← hW]; simp
    have zw : q < V7.heap.size := by omega
    clear hW cc ff Fa Ra Oa Sa zz2 zv2 zz
    obtain ⟨ya1, Ya1, hya1, F7⟩ : ∃ x X, Hid (Fv .f32 x X) ∧ Hid (FilB 31 V7 q ⟨b0, b1, b2, x, a2⟩) := ⟨_, _, hn, F7⟩
    clear hn
  all_goals
    refine (one_any B b (K + 14 + 14 + 14 + 2 + 2 + 2 + 14) 4 V7 S7.out (by omega) (by omega)).mono ?_
    rintro e w8 ⟨c4, rfl, s, o⟩
    have zz : V7.heap.size ≤ w8.heap.size := o.1.size
    have F8 := Lib.hid (F7.out.on o (by omega)); have R8 := Lib.hid (R7.out.on o (by omega)); have O8 := Lib.hid (O7.out.trans o); have S8 := Lib.hid s
    clear s o F7 R7 O7 S7
    cases c4
    case' false =>
      have c0 := F8.out.c0; have c1 := F8.out.c1; have c2 := F8.out.c2; have c3 := F8.out.c3; have c4 := F8.out.c4; have cf := F8.out.free 4
      have r0 := R8.out.c0; have r1 := R8.out.c1; have r2 := R8.out.c2; have r3 := R8.out.c3; have r4 := R8.out.c4
      have l0 := R8.out.free 0; have l1 := R8.out.free 1; have l2 := R8.out.free 2; have l3 := R8.out.free 3; have l4 := R8.out.free 4
      have NB := Lib.hid (R8.out.all b0 b1 b2 ya1 a2)
      have OO := Lib.hid (((((O8.out.own (Nat.le_refl _) hlt 0 (.float .f32 b0)).own (Nat.le_refl _) hlt 1 (.float .f32 b1)).own (Nat.le_refl _) hlt 2 (.float .f32 b2)).own (Nat.le_refl _) hlt 3 (.float .f32 ya1)).own (Nat.le_refl _) hlt 4 (.float .f32 a2))
      have SS := Lib.hid (((((S8.out.own hlt 0 (.float .f32 b0)).own hlt 1 (.float .f32 b1)).own hlt 2 (.float .f32 b2)).own hlt 3 (.float .f32 ya1)).own hlt 4 (.float .f32 a2))
      go_wp2_with fail
      generalize hV : World.setCell _ _ _ = V at *
      have g0 := NB.out.c0; have g1 := NB.out.c1; have g2 := NB.out.c2; have g3 := NB.out.c3; have g4 := NB.out.c4
      exact bodyPost_ret (v := .agg #[.float .f32 b0, .float .f32 b1, .float .f32 b2, .float .f32 ya1, .float .f32 a2]) (by simp [results, Try.results78, go_sem, g0, g1, g2, g3, g4]) rfl ⟨⟨b0, b1, b2, ya1, a2⟩, ⟨Q0, Qb1, Qb2, Ya1, Qa2⟩, rfl, ⟨h0, hb1, hb2, hya1, ha2⟩, SS.out.up (by omega), OO.out⟩
    case' true =>
      go_wp2_with fail
      refine (drawNum_any B b (K + 14 + 14 + 14 + 2 + 2 + 2 + 14 + 2) w8 S8.out (by omega)).mono ?_
      rintro e w9 ⟨na2, Qn, rfl, hn, s, o⟩
      have zz2 : w8.heap.size ≤ w9.heap.size := o.1.size
      have Fa := Lib.hid (F8.out.on o (by omega)); have Ra := Lib.hid (R8.out.on o (by omega)); have Oa := Lib.hid (O8.out.trans o); have Sa := Lib.hid s
      clear s o F8 R8 O8 S8
      have cc := Fa.out.c4; have ff := Fa.out.free 4
      rename (∀ (a : Act) (w : World), Code.wp Try.prog _ _ a w → _) => ak
      have AK := Lib.hid ak; clear ak
      go_wp2_with fail
      generalize hW : World.setCell _ _ _ = V9
      have F9 : Hid (FilB 31 V9 q ⟨b0, b1, b2, ya1, na2⟩) := Lib.hid (by rw [← hW]; exact Fa.out.s4 _)
      have R9 : Hid (FilB 31 V9 w.heap.size ⟨0, 0, 0, 0, 0⟩) := Lib.hid (by rw [← hW]; exact Ra.out.of (off_own (by omega)))
      have O9 : Hid (On b w V9) := Lib.hid (by rw [← hW]; exact Oa.out.own (by omega) hlt _ _)
      have S9 : Hid (Src B b (K + 14 + 14 + 14 + 2 + 2 + 2 + 14 + 2 + 14) V9) := Lib.hid (by rw [← hW]; exact Sa.out.own hqb _ _)
      clear hW cc ff Fa Ra Oa Sa zz2
      refine AK.out _ _ ?_
      have c0 := F9.out.c0; have c1 := F9.out.c1; have c2 := F9.out.c2; have c3 := F9.out.c3; have c4 := F9.out.c4; have cf := F9.out.free 4
      have r0 := R9.out.c0; have r1 := R9.out.c1; have r2 := R9.out.c2; have r3 := R9.out.c3; have r4 := R9.out.c4
      have l0 := R9.out.free 0; have l1 := R9.out.free 1; have l2 := R9.out.free 2; have l3 := R9.out.free 3; have l4 := R9.out.free 4
      have NB := Lib.hid (R9.out.all b0 b1 b2 ya1 na2)
      have OO := Lib.hid (((((O9.out.own (Nat.le_refl _) hlt 0 (.float .f32 b0)).own (Nat.le_refl _) hlt 1 (.float .f32 b1)).own (Nat.le_refl _) hlt 2 (.float .f32 b2)).own (Nat.le_refl _) hlt 3 (.float .f32 ya1)).own (Nat.le_refl _) hlt 4 (.float .f32 na2))
      have SS := Lib.hid (((((S9.out.own hlt 0 (.float .f32 b0)).own hlt 1 (.float .f32 b1)).own hlt 2 (.float .f32 b2)).own hlt 3 (.float .f32 ya1)).own hlt 4 (.float .f32 na2))
      go_wp2_with fail
      generalize hV : World.setCell _ _ _ = V at *
      have g0 := NB.out.c0; have g1 := NB.out.c1; have g2 := NB.out.c2; have g3 := NB.out.c3; have g4 := NB.out.c4
      exact bodyPost_ret (v := .agg #[.float .f32 b0, .float .f32 b1, .float .f32 b2, .float .f32 ya1, .float .f32 na2]) (by simp [results, Try.results78, go_sem, g0, g1, g2, g3, g4]) rfl ⟨⟨b0, b1, b2, ya1, na2⟩, ⟨Q0, Qb1, Qb2, Ya1, Qn⟩, rfl, ⟨h0, hb1, hb2, hya1, hn⟩, SS.out.up (by omega), OO.out⟩
end Go.Proofs.Ytebocaicebolaaa

/- Filters that come to rest: both sides. -/
set_option linter.unusedVariables false
set_option linter.unusedSimpArgs false
namespace Go.Proofs.Ytebocaicebolaaa
open Fl Go.RowKit
/-- whether all numbers of a memory are zeros -/
def stO (M : Mem) : Bool := eqO M.a (some 0) && eqO M.b (some 0) && eqO M.c (some 0) && eqO M.d (some 0)
/-- the memory behind so many samples +0 -/
def rstM (form : Nat) (F : Fil) (M : Mem) (k : Nat) : Mem := filM form true F M (fun _ => some 0) k
/-- what is told of the rest -/
def RestIs (form : Nat) (F : Fil) (M : Mem) (most : Nat) (z : Int) (b : Bool) : Prop :=
  (∃ k, k ≤ most ∧ (∀ j, j < k → stO (rstM form F M j) = false) ∧ stO (rstM form F M k) = true ∧ z = (k : Int) ∧ b = true) ∨ ((∀ j, j ≤ most → stO (rstM form F M j) = false) ∧ z = 0 ∧ b = false)
theorem rest_is (form : Nat) (F : Fil) (M : Mem) (most : Nat) : ∃ z b, RestIs form F M most z b := by
  have key : ∀ n : Nat, n ≤ most + 1 → (∃ k, k < n ∧ (∀ j, j < k → stO (rstM form F M j) = false) ∧ stO (rstM form F M k) = true) ∨ (∀ j, j < n → stO (rstM form F M j) = false) := by
    intro n
    induction n with
    | zero => exact fun _ => .inr fun j hj => absurd hj (Nat.not_lt_zero _)
    | succ n ih =>
      intro hn
      rcases ih (by omega) with ⟨k, h1, h2, h3⟩ | h
      · exact .inl ⟨k, by omega, h2, h3⟩
      · cases hs : stO (rstM form F M n)
        · exact .inr fun j hj => by
            by_cases e : j < n
            · exact h j e
            · obtain rfl : j = n := by omega
              exact hs
        · exact .inl ⟨n, by omega, h, hs⟩
  rcases key (most + 1) (Nat.le_refl _) with ⟨k, h1, h2, h3⟩ | h
  · exact ⟨k, true, .inl ⟨k, by omega, h2, h3, rfl, rfl⟩⟩
  · exact ⟨0, false, .inr ⟨fun j hj => h j (by omega), rfl, rfl⟩⟩
theorem rest_at {form : Nat} {F : Fil} {M : Mem} {most : Nat} {z : Int} {b : Bool} (h : RestIs form F M most z b) {k : Nat} (hk : k ≤ most) (hj : ∀ j, j < k → stO (rstM form F M j) = false) (hs : stO (rstM form F M k) = true) : z = (k : Int) ∧ b = true := by
  rcases h with ⟨q, h1, h2, h3, h4, h5⟩ | ⟨h1, _⟩
  · have : q = k := by
      rcases Nat.lt_trichotomy q k with h | h | h
      · rw [hj q h] at h3; cases h3
      · exact h
      · rw [h2 k h] at hs; cases hs
    subst this
    exact ⟨h4, h5⟩
  · rw [h1 k hk] at hs; cases hs
theorem rest_no {form : Nat} {F : Fil} {M : Mem} {most : Nat} {z : Int} {b : Bool} (h : RestIs form F M most z b) (hj : ∀ j, j ≤ most → stO (rstM form F M j) = false) : z = 0 ∧ b = false := by
  rcases h with ⟨q, h1, h2, h3, h4, h5⟩ | ⟨h1, h2, h3⟩
  · rw [hj q h1] at h3; cases h3
  · exact ⟨h2, h3⟩
theorem eqF_ (d : Nat) (a b : Nat) (w : World) : (Op.equalIn (d + 1) 22 (.float .f32 a) (.float .f32 b)).run Try.prog w = .ok (Op.floatEq .f32 a b) w := by
  rw [Op.equalIn]
  simp only [Sem.run_bind, run_underlying Try.underlying22, Result.andThen_ok]
  simp [Sem.run_pure]
theorem eq0 {q : Nat} {Q : O} (h : Hid (Fv .f32 q Q)) : Op.floatEq .f32 q 0 = eqO Q (some 0) := by
  rw [← eq_fv h fv0]; rfl
set_option maxHeartbeats 2000000 in
@[go_sem] theorem Try.eq4f (a b c d : Nat) (w : World) : (Op.equalIn 10000 93 (.agg #[.float .f32 a, .float .f32 b, .float .f32 c, .float .f32 d]) (.agg #[.float .f32 0, .float .f32 0, .float .f32 0, .float .f32 0])).run Try.prog w = .ok (Op.floatEq .f32 a 0 && Op.floatEq .f32 b 0 && Op.floatEq .f32 c 0 && Op.floatEq .f32 d 0) w := by
  have u3 := Try.underlying22
  have a3 := Try.isAgg22
  have z3 := Try.sizeOf22
  rw [show (10000 : Nat) = 9999 + 1 from rfl, Op.equalIn]
  simp only [Sem.run_bind, run_underlying Try.underlying93, Result.andThen_ok]
  simp only [Std.Legacy.Range.forIn_eq_forIn_range', Std.Legacy.Range.size, Nat.sub_zero, Nat.add_sub_cancel, Nat.div_one, List.range'_succ, List.range'_zero, List.forIn_cons, List.forIn_nil]
  have e := fun x y W => eqF_ 9998 x y W
  go_simp
  cases Op.floatEq .f32 a 0 <;> cases Op.floatEq .f32 b 0 <;> cases Op.floatEq .f32 c 0 <;> cases Op.floatEq .f32 d 0 <;> simp
set_option maxHeartbeats 2000000 in
theorem still_any (m : MemN) (M : Mem) (hM : FvM m M) (w : World) : Calls Try.prog 71 #[m.val] w fun e w' => e = .returned (.bool (stO M)) ∧ w.Since w.heap.size w' := by
  have g0 := eq_fv hM.a fv0; have g1 := eq_fv hM.b fv0; have g2 := eq_fv hM.c fv0; have g3 := eq_fv hM.d fv0
  obtain ⟨a, b, c, d⟩ := m
  unfold MemN.val stO
  clear hM
  simp only at g0 g1 g2 g3
  cases e0 : eqO M.a (some 0) <;> cases e1 : eqO M.b (some 0) <;> cases e2 : eqO M.c (some 0) <;> cases e3 : eqO M.d (some 0)
  all_goals
    rw [e0] at g0; rw [e1] at g1; rw [e2] at g2; rw [e3] at g3
    simp only [beq_iff_eq, beq_eq_false_iff_ne, ne_eq] at g0 g1 g2 g3
    clear e0 e1 e2 e3
    go_enter Try.func71, Try.ntmps71
    go_wp2
    go_ret
    exact ⟨ret_bool (by first | (simp; done) | (simp [g0, g1, g2, g3]; done) | (simp; assumption)), by (repeat (first | (with_reducible refine Fl.sinDrew ?_) | (with_reducible refine World.Since.drew ?_) | (with_reducible refine Fl.sinSet ?_ ?_; rotate_left) | (with_reducible refine Fl.sinAlloc ?_ ?_; rotate_left) | with_reducible exact World.Since.refl _ _ | with_reducible assumption | (with_reducible refine Fl.sinStep (by with_reducible assumption) ?_))); all_goals (first | omega | (simp; done) | (simp; omega) | (simp [go_sem]; done) | (simp [go_sem]; omega))⟩
theorem still_iff {M : Mem} {k : Nat} {form : Nat} {F : Fil} {N : Mem} (h : M = rstM form F N k) : stO M = stO (rstM form F N k) := by rw [h]
set_option maxHeartbeats 8000000 in
set_option maxRecDepth 100000 in
theorem specRest_ok (form : Nat) (hform : form ≤ 2) (f : FilN) (m : MemN) (F : Fil) (M : Mem) (most : Nat) (z : Int) (b : Bool) (w : World) (hF : FvF f F) (hM : FvM m M) (hmost : most ≤ 10000) (hr : RestIs form F M most z b) :
    Calls Try.prog 26 #[f.val, .int .i64 (form : Int), m.val, .int .i64 (most : Int)] w fun e w' => e = .returned (.tuple #[.int .i64 z, .bool b]) ∧ w.Since w.heap.size w' := by
  have h1 : inB (form : Int) 0 2 = true := by simp only [inB, Bool.and_eq_true, decide_eq_true_eq]; omega
  have h2 : inB (most : Int) 0 10000 = true := by simp only [inB, Bool.and_eq_true, decide_eq_true_eq]; omega
  have HIN : Hid (∀ v, Calls Try.prog 62 #[.int .i64 (most : Int), .int .i64 0, .int .i64 10000] v fun e w' => e = .returned (.bool true) ∧ v = w') := Lib.hid fun v => by have := l00In_any most 0 10000 v; rw [h2] at this; exact this
  have HST := Lib.hid fun (g : Nat) (m : MemN) (M : Mem) (v : World) (hg : FilAt v g f) (hM : FvM m M) => show Calls Try.prog 72 #[.pointer (some ⟨g, 0, none⟩), .int .i64 (form : Int), .bool true, .agg #[.float .f32 m.a, .float .f32 m.b, .float .f32 m.c, .float .f32 m.d], .float .f32 0] v (StepPost v (stepY form true F M (some 0)) (stepM form true F M (some 0))) from by
    match form, hform with
    | 0, _ => exact specDir_any true g f m 0 F M (some 0) v hg hF hM fv0
    | 1, _ => exact specTur_any true g f m 0 F M (some 0) v hg hF hM fv0
    | 2, _ => exact specCan_any true g f m 0 F M (some 0) v hg hF hM fv0
  have HR := Lib.hid hr
  clear hr h2
  obtain ⟨b0, b1, b2, a1, a2⟩ := f
  obtain ⟨ma, mb, mc, md⟩ := m
  unfold MemN.val at *
  unfold FilN.val
  go_enter Try.func26, Try.ntmps26
  go_wp2_with fail
  generalize hW1 : World.alloc w _ = W1
  generalize hW2 : World.alloc W1 _ = W2
  have z1 : W1.heap.size = w.heap.size + 1 := by rw [← hW1]; simp
  have z2 : W2.heap.size = w.heap.size + 1 + 1 := by rw [← hW2]; simp [z1]
  have FA : FilAt W1 w.heap.size ⟨b0, b1, b2, a1, a2⟩ := by rw [← hW1]; exact ⟨by simp, by simp [go_sem], by simp [go_sem], by simp [go_sem], by simp [go_sem], by simp [go_sem]⟩
  have b1_ : MemB 28 W2 (w.heap.size + 1) ⟨ma, mb, mc, md⟩ := by rw [← hW2, ← z1]; exact MemB.new _ _ _ _ _ _
  have s1 : w.Since w.heap.size W1 := by rw [← hW1]; exact (World.Since.refl _ _).alloc (Nat.le_refl _) _
  have s2 : W1.Since W1.heap.size W2 := by rw [← hW2]; exact (World.Since.refl _ _).alloc (Nat.le_refl _) _
  have F2 := Lib.hid (FA.since (since_mono s2 (by omega)))
  have B2 := Lib.hid b1_
  have S2 : Hid (w.Since w.heap.size W2) := Lib.hid (s1.trans (since_mono s2 (by omega)))
  clear hW1 hW2 s1 s2 b1_ FA z1
  go_wp2_with (first | (go_at_call 58; refine (l02Form_any _ _ _ h1).mono ?_; rintro e w' ⟨rfl, rfl⟩) | (go_at_call 62; refine (HIN.out _).mono ?_; rintro e w' ⟨rfl, rfl⟩))
  go_loopw [10] (fun i wr => ∃ (k : Nat) (q : MemN), k ≤ most + 1 ∧ i = .int .i64 (k : Int) ∧ FilAt wr w.heap.size ⟨b0, b1, b2, a1, a2⟩ ∧ MemB 28 wr (w.heap.size + 1) q ∧ FvM q (rstM form F M k) ∧ (∀ j, j < k → stO (rstM form F M j) = false) ∧ w.Since w.heap.size wr) (fun i _ => most + 1 - (intOf i).toNat)
  case atStart => exact ⟨0, _, Nat.zero_le _, rfl, F2.out, B2.out, hM, (fun j hj => absurd hj (Nat.not_lt_zero _)), S2.out⟩
  case round =>
    obtain ⟨k, ⟨qa, qb, qc, qd⟩, hk, rfl, hf, hb, hq, hno, hs⟩ := hrel
    have HF1 := Lib.hid hf; have HB := Lib.hid hb; have HQ := Lib.hid hq; have HN := Lib.hid hno; have HS := Lib.hid hs
    have hlt := hb.lt
    clear hf hb hq hno hs
    by_cases hkm : k ≤ most
    · have m0 := HB.out.c0; have m1 := HB.out.c1; have m2 := HB.out.c2; have m3 := HB.out.c3
      have hd : decide ((k : Int) ≤ (most : Int)) = true := decide_eq_true (by omega)
      have SI := Lib.hid (still_any ⟨qa, qb, qc, qd⟩ _ HQ.out wr)
      unfold MemN.val at SI
      cases hst : stO (rstM form F M k)
      · rw [hst] at SI
        have HK := Lib.hid hst
        clear hst
        go_wp2_with (go_at_call 71; refine SI.out.mono ?_; rintro e w3 ⟨rfl, hs⟩; clear m0 m1 m2 m3; have S3 := Lib.hid (since_step HS.out hs); have F3 := Lib.hid (HF1.out.since (since_mono hs (by omega))); have B3 := Lib.hid (HB.out.since hs hlt); clear hs; have m0 := B3.out.c0; have m1 := B3.out.c1; have m2 := B3.out.c2; have m3 := B3.out.c3)
        have hlt3 := B3.out.lt
        refine (HST.out w.heap.size ⟨qa, qb, qc, qd⟩ _ w3 F3.out HQ.out).mono ?_
        rintro e w4 ⟨y, ⟨ra, rb, rc, rd⟩, rfl, hy, hm, hs⟩
        have S4 := Lib.hid (since_step S3.out hs); have F4 := Lib.hid (F3.out.since (since_mono hs (by omega))); have B4 := Lib.hid (B3.out.since hs hlt3)
        have HM4 : Hid (FvM ⟨ra, rb, rc, rd⟩ (rstM form F M (k + 1))) := Lib.hid hm
        clear hs hm hy m0 m1 m2 m3
        have l0 := B4.out.free 0; have l1 := B4.out.free 1; have l2 := B4.out.free 2; have l3 := B4.out.free 3
        have c0 := B4.out.c0; have c1 := B4.out.c1; have c2 := B4.out.c2; have c3 := B4.out.c3
        have OO : Hid (On (w.heap.size + 1) w4 ((((w4.setCell ⟨w.heap.size + 1, 0, none⟩ (.float .f32 ra)).setCell ⟨w.heap.size + 1, 1, none⟩ (.float .f32 rb)).setCell ⟨w.heap.size + 1, 2, none⟩ (.float .f32 rc)).setCell ⟨w.heap.size + 1, 3, none⟩ (.float .f32 rd))) := Lib.hid (((((On.refl _ _).set _ _).set _ _).set _ _).set _ _)
        have NB := Lib.hid (B4.out.set ra rb rc rd)
        simp only [MemN.val_mk]
        go_wp2_with fail
        go_roundw
        case rel => exact ⟨k + 1, ⟨ra, rb, rc, rd⟩, by omega, by go_num, F4.out.since (since_mono OO.out.1 (by omega)), NB.out, HM4.out, (fun j hj => by
          by_cases e : j < k
          · exact HN.out j e
          · obtain rfl : j = k := by omega
            exact HK.out), S4.out.trans (since_mono OO.out.1 (by omega))⟩
        case measure => simp [intOf]; omega
      · rw [hst] at SI
        obtain ⟨rfl, rfl⟩ := rest_at HR.out hkm HN.out hst
        clear hst
        go_wp2_with (go_at_call 71; refine SI.out.mono ?_; rintro e w3 ⟨rfl, hs⟩; have S3 := Lib.hid (since_step HS.out hs); clear hs)
        go_ret2
        exact ⟨rfl, S3.out⟩
    · obtain rfl : k = most + 1 := by omega
      obtain ⟨rfl, rfl⟩ := rest_no HR.out fun j hj => HN.out j (by omega)
      have hd : decide ((((most + 1 : Nat) : Nat) : Int) ≤ (most : Int)) = false := decide_eq_false (by omega)
      go_wp2_with fail
      go_ret2
      exact ⟨rfl, HS.out⟩
set_option maxHeartbeats 8000000 in
set_option maxRecDepth 100000 in
theorem implRest_ok (form : Nat) (hform : form ≤ 2) (f : FilN) (m : MemN) (F : Fil) (M : Mem) (most : Nat) (z : Int) (b : Bool) (w : World) (hF : FvF f F) (hM : FvM m M) (hmost : most ≤ 10000) (hr : RestIs form F M most z b) :
    Calls Try.prog 27 #[f.val, .int .i64 (form : Int), m.val, .int .i64 (most : Int)] w fun e w' => e = .returned (.tuple #[.int .i64 z, .bool b]) ∧ w.Since w.heap.size w' := by
  obtain ⟨kk, hkk, hso⟩ := stepOf_any form hform
  have HSO := Lib.hid hso; clear hso
  have d1 : decide ((most : Int) < 0) = false := decide_eq_false (by omega)
  have d2 : decide ((10000 : Int) < (most : Int)) = false := decide_eq_false (by omega)
  have d3 : decide (10000 < most) = false := decide_eq_false (by omega)
  have HT := Lib.hid fun (m : MemN) (M : Mem) (v : World) (hM : FvM m M) => next_step hkk true f m 0 F M (some 0) v hF hM fv0
  have HR := Lib.hid hr
  have HCO := Lib.hid (cellsOf_any m)
  clear hr
  obtain ⟨b0, b1, b2, a1, a2⟩ := f
  obtain ⟨ma, mb, mc, md⟩ := m
  unfold MemN.val at *
  unfold setV at HT
  unfold FilN.val
  go_enter Try.func27, Try.ntmps27
  go_wp2_with fail
  generalize hW1 : World.alloc w _ = W1
  generalize hW2 : World.alloc W1 _ = W2
  have z1 : W1.heap.size = w.heap.size + 1 := by rw [← hW1]; simp
  have z2 : W2.heap.size = w.heap.size + 1 + 1 := by rw [← hW2]; simp [z1]
  have FA : FilB 31 W1 w.heap.size ⟨b0, b1, b2, a1, a2⟩ := by rw [← hW1]; exact FilB.new _ _ _ _ _ _ _
  have b1_ : MemB 28 W2 (w.heap.size + 1) ⟨ma, mb, mc, md⟩ := by rw [← hW2, ← z1]; exact MemB.new _ _ _ _ _ _
  have s1 : w.Since w.heap.size W1 := by rw [← hW1]; exact (World.Since.refl _ _).alloc (Nat.le_refl _) _
  have s2 : W1.Since W1.heap.size W2 := by rw [← hW2]; exact (World.Since.refl _ _).alloc (Nat.le_refl _) _
  have F2 := Lib.hid (FA.since s2 (by omega))
  have B2 := Lib.hid b1_
  have S2 : Hid (w.Since w.heap.size W2) := Lib.hid (s1.trans (since_mono s2 (by omega)))
  clear hW1 hW2 s1 s2 b1_ FA z1
  have Z2 := Lib.hid z2; clear z2
  go_step3
  go_wp2_with (first | (go_at_call 63; refine (HSO.out _).mono ?_; rintro e w' ⟨rfl, rfl⟩))
  refine Lk.wp_k (by kernel_rfl) (by kernel_rfl) (by kernel_rfl) ?_
  repeat (first
    | (refine Lk.sRow rfl rfl rfl rfl 31 _ rfl (w.heap.size) 0 rfl [.float .f32 b0, .float .f32 b1, .float .f32 b2, .float .f32 a1, .float .f32 a2] _ Try.underlying31 rfl (by kernel_rfl) (fun v hv => Lo.range_since F2.out.row hv F2.out.lt) ?_; (try simp only [Act.eval, Act.put, Lk.Va.val, Lk.Va.kd, List.setIfInBounds_toArray, List.set_cons_succ, List.set_cons_zero, Array.getD_eq_getD_getElem?, List.getElem?_toArray, List.getElem?_cons_succ, List.getElem?_cons_zero, Option.getD_some]))
    | (refine Lk.sRow rfl rfl rfl rfl 28 _ rfl (w.heap.size + 1) 0 rfl [.float .f32 ma, .float .f32 mb, .float .f32 mc, .float .f32 md] _ Try.underlying28 rfl (by kernel_rfl) (fun v hv => Lo.range_since B2.out.row hv B2.out.lt) ?_; (try simp only [Act.eval, Act.put, Lk.Va.val, Lk.Va.kd, List.setIfInBounds_toArray, List.set_cons_succ, List.set_cons_zero, Array.getD_eq_getD_getElem?, List.getElem?_toArray, List.getElem?_cons_succ, List.getElem?_cons_zero, Option.getD_some]))
    | (refine Lk.sCallV rfl rfl rfl 73 [.tmp _] _ rfl (callsEnter 73 Try.f73 _ (by kernel_rfl) (by kernel_rfl) rfl) rfl [.agg #[.float .f32 ma, .float .f32 mb, .float .f32 mc, .float .f32 md]] rfl (.agg #[.float .f32 ma, .float .f32 mb, .float .f32 mc, .float .f32 md]) (fun v _ _ => HCO.out v) ?_; (try simp only [Act.eval, Act.put, Lk.Va.val, Lk.Va.kd, List.setIfInBounds_toArray, List.set_cons_succ, List.set_cons_zero, Array.getD_eq_getD_getElem?, List.getElem?_toArray, List.getElem?_cons_succ, List.getElem?_cons_zero, Option.getD_some]))
    | (refine Lk.sAlloc rfl rfl (of_decide_eq_true rfl) 95 rfl 95 [.float .f32 0, .float .f32 0, .float .f32 0, .float .f32 0, .float .f32 0, .bool false] (fun v => by go_simp) ?_; (try simp only [Act.eval, Act.put, Lk.Va.val, Lk.Va.kd, List.setIfInBounds_toArray, List.set_cons_succ, List.set_cons_zero, Array.getD_eq_getD_getElem?, List.getElem?_toArray, List.getElem?_cons_succ, List.getElem?_cons_zero, Option.getD_some]))
    | (refine Lk.sAlloc rfl rfl (of_decide_eq_true rfl) 93 rfl 93 [.float .f32 0, .float .f32 0, .float .f32 0, .float .f32 0] (fun v => by go_simp) ?_; (try simp only [Act.eval, Act.put, Lk.Va.val, Lk.Va.kd, List.setIfInBounds_toArray, List.set_cons_succ, List.set_cons_zero, Array.getD_eq_getD_getElem?, List.getElem?_toArray, List.getElem?_cons_succ, List.getElem?_cons_zero, Option.getD_some]))
    | (refine Lk.sStore rfl 95 12 (.tmp 31) rfl rfl 95 (· = _) rfl 6 (fun cs h => by rw [h]; rfl) (by kernel_rfl) rfl [.float .f32 b0, .float .f32 b1, .float .f32 b2, .float .f32 a1, .float .f32 a2, .bool true] rfl (by intro h; cases h) rfl (by simp [Value.oneCell']) ?_; (try simp only [Act.eval, Act.put, Lk.Va.val, Lk.Va.kd, List.setIfInBounds_toArray, List.set_cons_succ, List.set_cons_zero, Array.getD_eq_getD_getElem?, List.getElem?_toArray, List.getElem?_cons_succ, List.getElem?_cons_zero, Option.getD_some]))
    | (refine Lk.sStore rfl 93 13 (.tmp 33) rfl rfl 93 (· = _) rfl 4 (fun cs h => by rw [h]; rfl) (by kernel_rfl) rfl [.float .f32 ma, .float .f32 mb, .float .f32 mc, .float .f32 md] rfl (by intro h; cases h) rfl (by simp [Value.oneCell']) ?_; (try simp only [Act.eval, Act.put, Lk.Va.val, Lk.Va.kd, List.setIfInBounds_toArray, List.set_cons_succ, List.set_cons_zero, Array.getD_eq_getD_getElem?, List.getElem?_toArray, List.getElem?_cons_succ, List.getElem?_cons_zero, Option.getD_some]))
    | (refine Lk.sMove rfl rfl rfl rfl _ (.inl rfl) ?_; simp only [Act.eval, Act.put, Lk.Va.val, Lk.Va.kd, List.setIfInBounds_toArray, List.set_cons_succ, List.set_cons_zero, Array.getD_eq_getD_getElem?, List.getElem?_toArray, List.getElem?_cons_succ, List.getElem?_cons_zero, Option.getD_some])
    | (refine Lk.sMove rfl rfl rfl rfl _ (.inr rfl) ?_; simp only [Act.eval, Act.put, Lk.Va.val, Lk.Va.kd, List.setIfInBounds_toArray, List.set_cons_succ, List.set_cons_zero, Array.getD_eq_getD_getElem?, List.getElem?_toArray, List.getElem?_cons_succ, List.getElem?_cons_zero, Option.getD_some])
    | (refine Lk.sCopy rfl rfl (of_decide_eq_true rfl) _ (.inl rfl) _ rfl rfl ?_; simp only [Act.eval, Act.put, Lk.Va.val, Lk.Va.kd, List.setIfInBounds_toArray, List.set_cons_succ, List.set_cons_zero, Array.getD_eq_getD_getElem?, List.getElem?_toArray, List.getElem?_cons_succ, List.getElem?_cons_zero, Option.getD_some])
    | (refine Lk.sCopy rfl rfl (of_decide_eq_true rfl) _ (.inr rfl) _ rfl rfl ?_; simp only [Act.eval, Act.put, Lk.Va.val, Lk.Va.kd, List.setIfInBounds_toArray, List.set_cons_succ, List.set_cons_zero, Array.getD_eq_getD_getElem?, List.getElem?_toArray, List.getElem?_cons_succ, List.getElem?_cons_zero, Option.getD_some])
    | (refine Lk.sQuiet rfl rfl rfl rfl rfl (fun K hK => ?_); go_big_quiet_op; first | (with_reducible refine ⟨_, fun _ _ => rfl, hK _ ?_⟩; clear hK K) | (refine hK _ ?_; clear hK K)))
  refine Lk.wpK_nil ?_
  refine Lk.After.apart 13 12 _ _ rfl rfl rfl (by decide) ?_
  refine Lk.After.slot 12 _ rfl ?_; intro u12 _; simp only [Act.eval, Act.put, Lk.Va.val, Lk.Va.kd, List.setIfInBounds_toArray, List.set_cons_succ, List.set_cons_zero, Array.getD_eq_getD_getElem?, List.getElem?_toArray, List.getElem?_cons_succ, List.getElem?_cons_zero, Option.getD_some]
  refine Lk.After.slot 13 _ rfl ?_; intro u13 _; simp only [Act.eval, Act.put, Lk.Va.val, Lk.Va.kd, List.setIfInBounds_toArray, List.set_cons_succ, List.set_cons_zero, Array.getD_eq_getD_getElem?, List.getElem?_toArray, List.getElem?_cons_succ, List.getElem?_cons_zero, Option.getD_some]
  refine Lk.After.end_ [12, 13] (by repeat (first | exact Lk.nbut.start | refine Lk.nbut.upd (by simp) ?_)) rfl ?_
  intro fpK wK hwK
  intro hK13 hB13 hX13
  intro hK12 hB12 hX12
  intro hA13_12
  obtain ⟨bs, cs, rfl, rfl, hSs, hGs⟩ := Lk.box_ge hK12 hB12 (hX12 rfl)
  obtain ⟨bc, cc, rfl, rfl, hSc, hGc⟩ := Lk.box_ge hK13 hB13 (hX13 rfl)
  have S3 := Lib.hid (since_step S2.out hwK)
  have hne : Hid (bc ≠ bs) := Lib.hid fun e => hA13_12 bc ((hSc bc).2 rfl) ((hSs bc).2 e)
  have BS : Hid (wK.heap[bs]? = some (.cells #[.float .f32 b0, .float .f32 b1, .float .f32 b2, .float .f32 a1, .float .f32 a2, .bool true] 95 (0, 0))) := Lib.hid hGs.1
  have BC : Hid (MemB 93 wK bc ⟨ma, mb, mc, md⟩) := Lib.hid hGc.1
  have LS : Hid (w.heap.size ≤ bs ∧ bs < wK.heap.size) := Lib.hid ⟨Nat.le_trans S2.out.size (hX12 rfl bs ((hSs bs).2 rfl)), (hGs.2.2 bs rfl).2⟩
  have LC : Hid (w.heap.size ≤ bc) := Lib.hid (Nat.le_trans S2.out.size (hX13 rfl bc ((hSc bc).2 rfl)))
  clear hK12 hB12 hX12 hK13 hB13 hX13 hSs hGs hSc hGc hA13_12 hwK F2 B2 S2 Z2 HCO HSO
  clear fpK
  go_wp2_with fail
  go_step3
  go_wp2_with fail
  go_loopw [14] (fun i wr => ∃ (k : Nat) (q : MemN), k ≤ most ∧ i = .int .i64 (k : Int) ∧ wr.heap[bs]? = some (.cells #[.float .f32 b0, .float .f32 b1, .float .f32 b2, .float .f32 a1, .float .f32 a2, .bool true] 95 (0, 0)) ∧ bs < wr.heap.size ∧ MemB 93 wr bc q ∧ FvM q (rstM form F M k) ∧ (∀ j, j < k → stO (rstM form F M j) = false) ∧ w.Since w.heap.size wr) (fun i _ => most - (intOf i).toNat)
  case atStart => exact ⟨0, _, Nat.zero_le _, rfl, BS.out, LS.out.2, BC.out, hM, (fun j hj => absurd hj (Nat.not_lt_zero _)), S3.out⟩
  case round =>
    obtain ⟨k, ⟨qa, qb, qc, qd⟩, hk, rfl, hb0, hlt0, hb, hq, hno, hs⟩ := hrel
    have HB0 := Lib.hid hb0; have HB := Lib.hid hb; have HQ := Lib.hid hq; have HN := Lib.hid hno; have HS := Lib.hid hs
    have hlt := hb.lt
    clear hb0 hb hq hno hs
    have m0 := HB.out.c0; have m1 := HB.out.c1; have m2 := HB.out.c2; have m3 := HB.out.c3
    have x0 := eq0 HQ.out.a; have x1 := eq0 HQ.out.b; have x2 := eq0 HQ.out.c; have x3 := eq0 HQ.out.d
    simp only at x0 x1 x2 x3
    have hall : (Op.floatEq .f32 qa 0 && Op.floatEq .f32 qb 0 && Op.floatEq .f32 qc 0 && Op.floatEq .f32 qd 0) = stO (rstM form F M k) := by rw [x0, x1, x2, x3]; rfl
    clear x0 x1 x2 x3
    cases hst : stO (rstM form F M k)
    · rw [hst] at hall
      have HK := Lib.hid hst
      clear hst
      by_cases hkm : k = most
      · obtain ⟨rfl, rfl⟩ := rest_no HR.out fun j hj => by
          by_cases e : j < k
          · exact HN.out j e
          · obtain rfl : j = k := by omega
            exact HK.out
        subst hkm
        go_wp2_with fail
        go_ret2
        exact ⟨rfl, HS.out⟩
      · have hd : decide ((k : Int) = (most : Int)) = false := decide_eq_false (by omega)
        have hne2 : ¬ ((k : Int) = (most : Int)) := by omega
        have k0 : wr.cell? ⟨bs, 0, none⟩ = some (.float .f32 b0) := by have := HB0.out; simp [World.cell?, this]
        have k1 : wr.cell? ⟨bs, 1, none⟩ = some (.float .f32 b1) := by have := HB0.out; simp [World.cell?, this]
        have k2 : wr.cell? ⟨bs, 2, none⟩ = some (.float .f32 b2) := by have := HB0.out; simp [World.cell?, this]
        have k3 : wr.cell? ⟨bs, 3, none⟩ = some (.float .f32 a1) := by have := HB0.out; simp [World.cell?, this]
        have k4 : wr.cell? ⟨bs, 4, none⟩ = some (.float .f32 a2) := by have := HB0.out; simp [World.cell?, this]
        have k5 : wr.cell? ⟨bs, 5, none⟩ = some (.bool true) := by have := HB0.out; simp [World.cell?, this]
        go_wp2_with fail
        refine (HT.out ⟨qa, qb, qc, qd⟩ _ wr HQ.out).mono ?_
        rintro e w4 ⟨y, ⟨ra, rb, rc, rd⟩, rfl, hy, hm, hs⟩
        have S4 := Lib.hid (since_step HS.out hs); have B4 := Lib.hid (HB.out.since hs hlt)
        have B0 := Lib.hid ((hs.block bs hlt0).trans HB0.out)
        have hlt4 : bs < w4.heap.size := by have := hs.size; omega
        have HM4 : Hid (FvM ⟨ra, rb, rc, rd⟩ (rstM form F M (k + 1))) := Lib.hid hm
        clear hs hm hy m0 m1 m2 m3 k0 k1 k2 k3 k4 k5
        have l0 := B4.out.free 0; have l1 := B4.out.free 1; have l2 := B4.out.free 2; have l3 := B4.out.free 3
        have c0 := B4.out.c0; have c1 := B4.out.c1; have c2 := B4.out.c2; have c3 := B4.out.c3
        have OO : Hid (On bc w4 ((((w4.setCell ⟨bc, 0, none⟩ (.float .f32 ra)).setCell ⟨bc, 1, none⟩ (.float .f32 rb)).setCell ⟨bc, 2, none⟩ (.float .f32 rc)).setCell ⟨bc, 3, none⟩ (.float .f32 rd))) := Lib.hid (((((On.refl _ _).set _ _).set _ _).set _ _).set _ _)
        have NB := Lib.hid (B4.out.set ra rb rc rd)
        simp only [MemN.val_mk]
        go_wp2_with fail
        go_roundw
        case rel => exact ⟨k + 1, ⟨ra, rb, rc, rd⟩, by omega, by go_num, (OO.out.2 bs hlt4 (fun e => hne.out e.symm)).trans B0.out, by have := OO.out.1.size; omega, NB.out, HM4.out, (fun j hj => by
          by_cases e : j < k
          · exact HN.out j e
          · obtain rfl : j = k := by omega
            exact HK.out), S4.out.trans (since_mono OO.out.1 LC.out)⟩
        case measure => simp [intOf]; omega
    · rw [hst] at hall
      obtain ⟨rfl, rfl⟩ := rest_at HR.out hk HN.out hst
      clear hst
      go_wp2_with fail
      go_ret2
      exact ⟨rfl, HS.out⟩
theorem specRest_no (f : FilN) (form : Int) (m : MemN) (most : Int) (w : World) (h : ¬ (inB form 0 2 = true ∧ inB most 0 10000 = true)) :
    Calls Try.prog 26 #[f.val, .int .i64 form, m.val, .int .i64 most] w fun e w' => e = .returned (.tuple #[.int .i64 0, .bool false]) ∧ w.Since w.heap.size w' := by
  obtain ⟨b0, b1, b2, a1, a2⟩ := f
  obtain ⟨ma, mb, mc, md⟩ := m
  unfold FilN.val MemN.val
  cases h1 : inB form 0 2
  · go_enter Try.func26, Try.ntmps26
    go_wp2_with (go_at_call 58; refine (l02Form_any _ _ _ h1).mono ?_; rintro e w' ⟨rfl, rfl⟩)
    go_ret2
    exact ⟨rfl, by (repeat (first | (with_reducible refine Fl.sinDrew ?_) | (with_reducible refine World.Since.drew ?_) | (with_reducible refine Fl.sinSet ?_ ?_; rotate_left) | (with_reducible refine Fl.sinAlloc ?_ ?_; rotate_left) | with_reducible exact World.Since.refl _ _ | with_reducible assumption | (with_reducible refine Fl.sinStep (by with_reducible assumption) ?_))); all_goals (first | omega | (simp; done) | (simp; omega) | (simp [go_sem]; done) | (simp [go_sem]; omega))⟩
  · have h2 : inB most 0 10000 = false := by
      cases h2 : inB most 0 10000
      · rfl
      · exact absurd ⟨h1, h2⟩ h
    clear h
    have HIN : Hid (∀ v, Calls Try.prog 62 #[.int .i64 most, .int .i64 0, .int .i64 10000] v fun e w' => e = .returned (.bool false) ∧ v = w') := Lib.hid fun v => by have := l00In_any most 0 10000 v; rw [h2] at this; exact this
    clear h2
    go_enter Try.func26, Try.ntmps26
    go_wp2_with (first | (go_at_call 58; refine (l02Form_any _ _ _ h1).mono ?_; rintro e w' ⟨rfl, rfl⟩) | (go_at_call 62; refine (HIN.out _).mono ?_; rintro e w' ⟨rfl, rfl⟩))
    go_ret2
    exact ⟨rfl, by (repeat (first | (with_reducible refine Fl.sinDrew ?_) | (with_reducible refine World.Since.drew ?_) | (with_reducible refine Fl.sinSet ?_ ?_; rotate_left) | (with_reducible refine Fl.sinAlloc ?_ ?_; rotate_left) | with_reducible exact World.Since.refl _ _ | with_reducible assumption | (with_reducible refine Fl.sinStep (by with_reducible assumption) ?_))); all_goals (first | omega | (simp; done) | (simp; omega) | (simp [go_sem]; done) | (simp [go_sem]; omega))⟩
theorem implRest_no (f : FilN) (form : Int) (m : MemN) (most : Int) (w : World) (h : ¬ (inB form 0 2 = true ∧ inB most 0 10000 = true)) :
    Calls Try.prog 27 #[f.val, .int .i64 form, m.val, .int .i64 most] w fun e w' => e = .returned (.tuple #[.int .i64 0, .bool false]) ∧ w.Since w.heap.size w' := by
  obtain ⟨b0, b1, b2, a1, a2⟩ := f
  obtain ⟨ma, mb, mc, md⟩ := m
  unfold FilN.val MemN.val
  cases h1 : inB form 0 2
  · go_enter Try.func27, Try.ntmps27
    go_wp2_with fail
    go_step3
    go_wp2_with (go_at_call 63; refine (stepOf_out _ _ h1).mono ?_; rintro e w' ⟨rfl, rfl⟩)
    rw [Exit.noGoto_ret]
    go_ret2
    exact ⟨rfl, by (repeat (first | (with_reducible refine Fl.sinDrew ?_) | (with_reducible refine World.Since.drew ?_) | (with_reducible refine Fl.sinSet ?_ ?_; rotate_left) | (with_reducible refine Fl.sinAlloc ?_ ?_; rotate_left) | with_reducible exact World.Since.refl _ _ | with_reducible assumption | (with_reducible refine Fl.sinStep (by with_reducible assumption) ?_))); all_goals (first | omega | (simp; done) | (simp; omega) | (simp [go_sem]; done) | (simp [go_sem]; omega))⟩
  · have h2 : ¬ (0 ≤ most ∧ most ≤ 10000) := fun h3 => h ⟨h1, by simp only [inB, Bool.and_eq_true, decide_eq_true_eq]; exact h3⟩
    clear h
    simp only [inB, Bool.and_eq_true, decide_eq_true_eq] at h1
    obtain ⟨form, rfl⟩ := Int.eq_ofNat_of_zero_le h1.1
    obtain ⟨kk, _, hso⟩ := stepOf_any form (by omega)
    have HSO := Lib.hid hso; clear hso
    by_cases h3 : most < 0
    · have d1 : decide (most < 0) = true := decide_eq_true h3
      go_enter Try.func27, Try.ntmps27
      go_wp2_with fail
      go_step3
      go_wp2_with (go_at_call 63; refine (HSO.out _).mono ?_; rintro e w' ⟨rfl, rfl⟩)
      rw [Exit.noGoto_ret]
      go_ret2
      exact ⟨rfl, by (repeat (first | (with_reducible refine Fl.sinDrew ?_) | (with_reducible refine World.Since.drew ?_) | (with_reducible refine Fl.sinSet ?_ ?_; rotate_left) | (with_reducible refine Fl.sinAlloc ?_ ?_; rotate_left) | with_reducible exact World.Since.refl _ _ | with_reducible assumption | (with_reducible refine Fl.sinStep (by with_reducible assumption) ?_))); all_goals (first | omega | (simp; done) | (simp; omega) | (simp [go_sem]; done) | (simp [go_sem]; omega))⟩
    · have d1 : decide (most < 0) = false := decide_eq_false h3
      have d2 : decide (10000 < most) = true := decide_eq_true (by omega)
      go_enter Try.func27, Try.ntmps27
      go_wp2_with fail
      go_step3
      go_wp2_with (go_at_call 63; refine (HSO.out _).mono ?_; rintro e w' ⟨rfl, rfl⟩)
      rw [Exit.noGoto_ret]
      go_ret2
      exact ⟨rfl, by (repeat (first | (with_reducible refine Fl.sinDrew ?_) | (with_reducible refine World.Since.drew ?_) | (with_reducible refine Fl.sinSet ?_ ?_; rotate_left) | (with_reducible refine Fl.sinAlloc ?_ ?_; rotate_left) | with_reducible exact World.Since.refl _ _ | with_reducible assumption | (with_reducible refine Fl.sinStep (by with_reducible assumption) ?_))); all_goals (first | omega | (simp; done) | (simp; omega) | (simp [go_sem]; done) | (simp [go_sem]; omega))⟩
end Go.Proofs.Ytebocaicebolaaa

/- Walks of laws whose arguments or results are lists. -/
set_option linter.unusedVariables false
set_option linter.unusedSimpArgs false
namespace Go.Proofs.Ytebocaicebolaaa
open Fl Go.RowKit
set_option maxHeartbeats 16000000 in
set_option maxRecDepth 100000 in
theorem lawRestAfter_gen (a0 : FilN) (a1 : Int) (a2 : MemN) (a3 : Int) (ri0 : Int) (rb1 : Bool) (w : World)
     
    (hsp : ∀ (v : World) (_ : Unit), Calls Try.prog 26 #[a0.val, .int .i64 a1, a2.val, .int .i64 a3] v (PIB ri0 rb1 v))
    (him : ∀ (v : World) (_ : Unit), Calls Try.prog 27 #[a0.val, .int .i64 a1, a2.val, .int .i64 a3] v (PIB ri0 rb1 v)) :
    Calls Try.prog 6 #[a0.val, .int .i64 a1, a2.val, .int .i64 a3] w fun e w' => e = .returned (.bool true) ∧ w.Since w.heap.size w' := by
  obtain ⟨a0_0, a0_1, a0_2, a0_3, a0_4⟩ := a0
  have hto0 := toFilter_any ⟨a0_0, a0_1, a0_2, a0_3, a0_4⟩
  simp only [FilN.val] at hto0 hsp him ⊢
  have HTO0 := Lib.hid hto0; clear hto0
  obtain ⟨a2_0, a2_1, a2_2, a2_3⟩ := a2
  have hto2 := toMemory_any ⟨a2_0, a2_1, a2_2, a2_3⟩
  simp only [MemN.val] at hto2 hsp him ⊢
  have HTO2 := Lib.hid hto2; clear hto2
  obtain ⟨W, hW⟩ : ∃ W, W = ((w.alloc (.cells #[.float .f32 a0_0, .float .f32 a0_1, .float .f32 a0_2, .float .f32 a0_3, .float .f32 a0_4] 24)).alloc (.cells #[.float .f32 a2_0, .float .f32 a2_1, .float .f32 a2_2, .float .f32 a2_3] 26)) := ⟨_, rfl⟩
  have S0 : Hid (w.Since w.heap.size W) := Lib.hid (by rw [hW]; exact ((World.Since.refl _ _).alloc (Nat.le_refl _) _).alloc (by simp; try omega) _)
  have hz : w.heap.size + 1 < W.heap.size := by rw [hW]; simp
  have RG0 : Hid (W.rangeAt (w.heap.size) 0 [.float .f32 a0_0, .float .f32 a0_1, .float .f32 a0_2, .float .f32 a0_3, .float .f32 a0_4]) := Lib.hid (fun j v hj => by rw [Nat.zero_add]; match j, hj with | 0, hj => (cases hj; rw [hW]; simp [go_sem]) | 1, hj => (cases hj; rw [hW]; simp [go_sem]) | 2, hj => (cases hj; rw [hW]; simp [go_sem]) | 3, hj => (cases hj; rw [hW]; simp [go_sem]) | 4, hj => (cases hj; rw [hW]; simp [go_sem]))
  have BX0_0 : Hid (W.cell? ⟨w.heap.size, 0, none⟩ = some (.float .f32 a0_0)) := Lib.hid (by rw [hW]; simp [go_sem])
  have BX0_1 : Hid (W.cell? ⟨w.heap.size, 1, none⟩ = some (.float .f32 a0_1)) := Lib.hid (by rw [hW]; simp [go_sem])
  have BX0_2 : Hid (W.cell? ⟨w.heap.size, 2, none⟩ = some (.float .f32 a0_2)) := Lib.hid (by rw [hW]; simp [go_sem])
  have BX0_3 : Hid (W.cell? ⟨w.heap.size, 3, none⟩ = some (.float .f32 a0_3)) := Lib.hid (by rw [hW]; simp [go_sem])
  have BX0_4 : Hid (W.cell? ⟨w.heap.size, 4, none⟩ = some (.float .f32 a0_4)) := Lib.hid (by rw [hW]; simp [go_sem])
  have RG2 : Hid (W.rangeAt (w.heap.size + 1) 0 [.float .f32 a2_0, .float .f32 a2_1, .float .f32 a2_2, .float .f32 a2_3]) := Lib.hid (fun j v hj => by rw [Nat.zero_add]; match j, hj with | 0, hj => (cases hj; rw [hW]; simp [go_sem]) | 1, hj => (cases hj; rw [hW]; simp [go_sem]) | 2, hj => (cases hj; rw [hW]; simp [go_sem]) | 3, hj => (cases hj; rw [hW]; simp [go_sem]))
  have BX2_0 : Hid (W.cell? ⟨w.heap.size + 1, 0, none⟩ = some (.float .f32 a2_0)) := Lib.hid (by rw [hW]; simp [go_sem])
  have BX2_1 : Hid (W.cell? ⟨w.heap.size + 1, 1, none⟩ = some (.float .f32 a2_1)) := Lib.hid (by rw [hW]; simp [go_sem])
  have BX2_2 : Hid (W.cell? ⟨w.heap.size + 1, 2, none⟩ = some (.float .f32 a2_2)) := Lib.hid (by rw [hW]; simp [go_sem])
  have BX2_3 : Hid (W.cell? ⟨w.heap.size + 1, 3, none⟩ = some (.float .f32 a2_3)) := Lib.hid (by rw [hW]; simp [go_sem])
  have HSP := Lib.hid hsp; have HIM := Lib.hid him; clear hsp him
  go_enter Try.func6, Try.ntmps6
  go_wp2_with fail
  rw [← hW]
  have S : Hid (W.Since W.heap.size W) := Lib.hid (World.Since.refl _ _)
  have LV : Hid (He W.heap.size W []) := Lib.hid trivial
  refine Lo.wp_looseG_all [] (by kernel_rfl) (by kernel_rfl) ?_
  repeat (first
    | (refine Lo.wpL_loadRow rfl 24 _ rfl (by decide) (w.heap.size) 0 rfl [.float .f32 a0_0, .float .f32 a0_1, .float .f32 a0_2, .float .f32 a0_3, .float .f32 a0_4] _ Try.underlying24 rfl (by kernel_rfl) (fun v ⟨hs, dd, hv⟩ => hv ▸ Lo.range_since (Lo.range_since RG0.out S.out (show w.heap.size < W.heap.size by omega)) (Lo.mkW_since _ hs dd) (Nat.lt_of_lt_of_le (show w.heap.size < W.heap.size by omega) S.out.size)) ?_; simp only [Act.put, List.setIfInBounds_toArray, List.set_cons_succ, List.set_cons_zero])
    | (refine Lo.wpG_callQ rfl 14 [.tmp _] [.agg #[.float .f32 a0_0, .float .f32 a0_1, .float .f32 a0_2, .float .f32 a0_3, .float .f32 a0_4]] _ rfl (by decide) (callsEnter 14 Try.f14 _ (by kernel_rfl) (by kernel_rfl) rfl) rfl (.agg #[.float .f32 a0_0, .float .f32 a0_1, .float .f32 a0_2, .float .f32 a0_3, .float .f32 a0_4]) (fun v hv => (HTO0.out v).mono fun e v2 ⟨h1, h2⟩ => ⟨h1, Lo.mkW_mkW hv h2⟩) ?_; simp only [Act.put, List.setIfInBounds_toArray, List.set_cons_succ, List.set_cons_zero])
    | (refine Lo.wpL_loadRow rfl 26 _ rfl (by decide) (w.heap.size + 1) 0 rfl [.float .f32 a2_0, .float .f32 a2_1, .float .f32 a2_2, .float .f32 a2_3] _ Try.underlying26 rfl (by kernel_rfl) (fun v ⟨hs, dd, hv⟩ => hv ▸ Lo.range_since (Lo.range_since RG2.out S.out (show w.heap.size + 1 < W.heap.size by omega)) (Lo.mkW_since _ hs dd) (Nat.lt_of_lt_of_le (show w.heap.size + 1 < W.heap.size by omega) S.out.size)) ?_; simp only [Act.put, List.setIfInBounds_toArray, List.set_cons_succ, List.set_cons_zero])
    | (refine Lo.wpG_callQ rfl 15 [.tmp _] [.agg #[.float .f32 a2_0, .float .f32 a2_1, .float .f32 a2_2, .float .f32 a2_3]] _ rfl (by decide) (callsEnter 15 Try.f15 _ (by kernel_rfl) (by kernel_rfl) rfl) rfl (.agg #[.float .f32 a2_0, .float .f32 a2_1, .float .f32 a2_2, .float .f32 a2_3]) (fun v hv => (HTO2.out v).mono fun e v2 ⟨h1, h2⟩ => ⟨h1, Lo.mkW_mkW hv h2⟩) ?_; simp only [Act.put, List.setIfInBounds_toArray, List.set_cons_succ, List.set_cons_zero])
    | (refine Lo.wpG_callQ rfl 26 [.tmp _, .tmp _, .tmp _, .tmp _] [(.agg #[.float .f32 a0_0, .float .f32 a0_1, .float .f32 a0_2, .float .f32 a0_3, .float .f32 a0_4]), .int .i64 a1, (.agg #[.float .f32 a2_0, .float .f32 a2_1, .float .f32 a2_2, .float .f32 a2_3]), .int .i64 a3] _ rfl (by decide) (callsEnter 26 Try.f26 _ (by kernel_rfl) (by kernel_rfl) rfl) rfl (.tuple #[.int .i64 ri0, .bool rb1]) (fun v hv => (HSP.out v ()).mono fun e v2 ⟨h1, h2⟩ => ⟨h1, Lo.mkW_mkW hv h2⟩) ?_; simp only [Act.put, List.setIfInBounds_toArray, List.set_cons_succ, List.set_cons_zero])
    | (refine Lo.wpL_move rfl _ (.inl rfl) (by decide) ?_; simp only [Act.put, List.setIfInBounds_toArray, List.set_cons_succ, List.set_cons_zero])
    | (refine Lo.wpL_move rfl _ (.inr rfl) (by decide) ?_; simp only [Act.put, List.setIfInBounds_toArray, List.set_cons_succ, List.set_cons_zero])
    | (refine Lo.wpG_fop (fun _ m h => Lo.drewG m h) rfl _ _ _ _ rfl rfl (by decide) _ _ _ _ _ rfl rfl (by assumption) (by assumption) ?_; intro rr hrr; simp only [Act.put, List.setIfInBounds_toArray, List.set_cons_succ, List.set_cons_zero])
    | (refine Lo.wpL_quiet rfl (by decide) (fun K hK => ?_); go_big_quiet_op; first | (refine hK _ ?_; clear hK K) | (refine ⟨_, fun _ _ _ _ => rfl, hK _ ?_⟩; clear hK K)))
  refine Lo.wpL_nil ?_; intro hsG dG
  refine Lo.after_nil ?_; intro nq
  generalize hwG : Lo.mkW _ hsG dG = wG
  replace hwG := Lo.sinceG hwG
  clear hsG dG
  have hs := hwG; clear hwG
  obtain ⟨v1, hV⟩ : ∃ v, v = wG := ⟨_, rfl⟩; rw [← hV] at hs ⊢; clear hV wG
  have S' := Lib.hid (since_step S.out hs); clear S; have S := S'; clear S'
  have LV' := Lib.hid (LV.out.since hs); clear LV; have LV := LV'; clear LV'
  clear hs
  go_wp2_with fail
  refine Lo.wp_looseG_all [] (by kernel_rfl) (by kernel_rfl) ?_
  repeat (first
    | (refine Lo.wpL_loadRow rfl 24 _ rfl (by decide) (w.heap.size) 0 rfl [.float .f32 a0_0, .float .f32 a0_1, .float .f32 a0_2, .float .f32 a0_3, .float .f32 a0_4] _ Try.underlying24 rfl (by kernel_rfl) (fun v ⟨hs, dd, hv⟩ => hv ▸ Lo.range_since (Lo.range_since RG0.out S.out (show w.heap.size < W.heap.size by omega)) (Lo.mkW_since _ hs dd) (Nat.lt_of_lt_of_le (show w.heap.size < W.heap.size by omega) S.out.size)) ?_; simp only [Act.put, List.setIfInBounds_toArray, List.set_cons_succ, List.set_cons_zero])
    | (refine Lo.wpG_callQ rfl 14 [.tmp _] [.agg #[.float .f32 a0_0, .float .f32 a0_1, .float .f32 a0_2, .float .f32 a0_3, .float .f32 a0_4]] _ rfl (by decide) (callsEnter 14 Try.f14 _ (by kernel_rfl) (by kernel_rfl) rfl) rfl (.agg #[.float .f32 a0_0, .float .f32 a0_1, .float .f32 a0_2, .float .f32 a0_3, .float .f32 a0_4]) (fun v hv => (HTO0.out v).mono fun e v2 ⟨h1, h2⟩ => ⟨h1, Lo.mkW_mkW hv h2⟩) ?_; simp only [Act.put, List.setIfInBounds_toArray, List.set_cons_succ, List.set_cons_zero])
    | (refine Lo.wpL_loadRow rfl 26 _ rfl (by decide) (w.heap.size + 1) 0 rfl [.float .f32 a2_0, .float .f32 a2_1, .float .f32 a2_2, .float .f32 a2_3] _ Try.underlying26 rfl (by kernel_rfl) (fun v ⟨hs, dd, hv⟩ => hv ▸ Lo.range_since (Lo.range_since RG2.out S.out (show w.heap.size + 1 < W.heap.size by omega)) (Lo.mkW_since _ hs dd) (Nat.lt_of_lt_of_le (show w.heap.size + 1 < W.heap.size by omega) S.out.size)) ?_; simp only [Act.put, List.setIfInBounds_toArray, List.set_cons_succ, List.set_cons_zero])
    | (refine Lo.wpG_callQ rfl 15 [.tmp _] [.agg #[.float .f32 a2_0, .float .f32 a2_1, .float .f32 a2_2, .float .f32 a2_3]] _ rfl (by decide) (callsEnter 15 Try.f15 _ (by kernel_rfl) (by kernel_rfl) rfl) rfl (.agg #[.float .f32 a2_0, .float .f32 a2_1, .float .f32 a2_2, .float .f32 a2_3]) (fun v hv => (HTO2.out v).mono fun e v2 ⟨h1, h2⟩ => ⟨h1, Lo.mkW_mkW hv h2⟩) ?_; simp only [Act.put, List.setIfInBounds_toArray, List.set_cons_succ, List.set_cons_zero])
    | (refine Lo.wpG_callQ rfl 27 [.tmp _, .tmp _, .tmp _, .tmp _] [(.agg #[.float .f32 a0_0, .float .f32 a0_1, .float .f32 a0_2, .float .f32 a0_3, .float .f32 a0_4]), .int .i64 a1, (.agg #[.float .f32 a2_0, .float .f32 a2_1, .float .f32 a2_2, .float .f32 a2_3]), .int .i64 a3] _ rfl (by decide) (callsEnter 27 Try.f27 _ (by kernel_rfl) (by kernel_rfl) rfl) rfl (.tuple #[.int .i64 ri0, .bool rb1]) (fun v hv => (HIM.out v ()).mono fun e v2 ⟨h1, h2⟩ => ⟨h1, Lo.mkW_mkW hv h2⟩) ?_; simp only [Act.put, List.setIfInBounds_toArray, List.set_cons_succ, List.set_cons_zero])
    | (refine Lo.wpL_move rfl _ (.inl rfl) (by decide) ?_; simp only [Act.put, List.setIfInBounds_toArray, List.set_cons_succ, List.set_cons_zero])
    | (refine Lo.wpL_move rfl _ (.inr rfl) (by decide) ?_; simp only [Act.put, List.setIfInBounds_toArray, List.set_cons_succ, List.set_cons_zero])
    | (refine Lo.wpG_fop (fun _ m h => Lo.drewG m h) rfl _ _ _ _ rfl rfl (by decide) _ _ _ _ _ rfl rfl (by assumption) (by assumption) ?_; intro rr hrr; simp only [Act.put, List.setIfInBounds_toArray, List.set_cons_succ, List.set_cons_zero])
    | (refine Lo.wpL_quiet rfl (by decide) (fun K hK => ?_); go_big_quiet_op; first | (refine hK _ ?_; clear hK K) | (refine ⟨_, fun _ _ _ _ => rfl, hK _ ?_⟩; clear hK K)))
  refine Lo.wpL_nil ?_; intro hsG dG
  refine Lo.after_nil ?_; intro nq
  generalize hwG : Lo.mkW _ hsG dG = wG
  replace hwG := Lo.sinceG hwG
  clear hsG dG
  have hs := hwG; clear hwG
  obtain ⟨v2, hV⟩ : ∃ v, v = wG := ⟨_, rfl⟩; rw [← hV] at hs ⊢; clear hV wG
  have S' := Lib.hid (since_step S.out hs); clear S; have S := S'; clear S'
  have LV' := Lib.hid (LV.out.since hs); clear LV; have LV := LV'; clear LV'
  clear hs
  go_wp2_with fail
  go_ret
  exact ⟨rfl, S0.out.trans (since_mono S.out (show w.heap.size ≤ W.heap.size by omega))⟩
end Go.Proofs.Ytebocaicebolaaa

/- Filters that come to rest: the law. -/
set_option linter.unusedVariables false
set_option linter.unusedSimpArgs false
namespace Go.Proofs.Ytebocaicebolaaa
open Fl Go.RowKit
theorem lawRestAfter_any (f : FilN) (form : Int) (m : MemN) (most : Int) (w : World) (hF : FvF f ⟨ab .f32 f.b0, ab .f32 f.b1, ab .f32 f.b2, ab .f32 f.a1, ab .f32 f.a2⟩) (w1 : (Lit.int .i64 form).wf = true) (hM : FvM m ⟨ab .f32 m.a, ab .f32 m.b, ab .f32 m.c, ab .f32 m.d⟩) (w2 : (Lit.int .i64 most).wf = true) :
    Calls Try.prog 6 #[f.val, .int .i64 form, m.val, .int .i64 most] w fun e w' => e = .returned (.bool true) ∧ w.Since w.heap.size w' := by
  by_cases h : inB form 0 2 = true ∧ inB most 0 10000 = true
  · obtain ⟨h1, h2⟩ := h
    simp only [inB, Bool.and_eq_true, decide_eq_true_eq] at h1 h2
    obtain ⟨form, rfl⟩ := Int.eq_ofNat_of_zero_le h1.1
    obtain ⟨n, rfl⟩ := Int.eq_ofNat_of_zero_le h2.1
    obtain ⟨z, b, hr⟩ := rest_is form ⟨ab .f32 f.b0, ab .f32 f.b1, ab .f32 f.b2, ab .f32 f.a1, ab .f32 f.a2⟩ ⟨ab .f32 m.a, ab .f32 m.b, ab .f32 m.c, ab .f32 m.d⟩ n
    exact lawRestAfter_gen f form m n z b w (fun v _ => specRest_ok form (by omega) f m _ _ n z b v hF hM (by omega) hr) (fun v _ => implRest_ok form (by omega) f m _ _ n z b v hF hM (by omega) hr)
  · exact lawRestAfter_gen f form m most 0 false w (fun v _ => specRest_no f form m most v h) (fun v _ => implRest_no f form m most v h)
end Go.Proofs.Ytebocaicebolaaa

