/- Joined: Gn Gp Gq Gu Gv Gw Uk Hc Hd He Hf Hg Hh Hn Ho Lm Gg Gm Hi Hj Hp Ln Gx Gy Gz Ul Um -/
import Derived.Test.YtebocaicebolaaaGe
import Derived.Test.YtebocaicebolaaaEc
import Derived.Test.YtebocaicebolaaaRz
import Derived.Test.YtebocaicebolaaaTa
import Derived.Lib.SliceRun
import Derived.Test.YtebocaicebolaaaIl
import Derived.Test.YtebocaicebolaaaDl
import Derived.BigQuiet
import Derived.Test.YtebocaicebolaaaEg
import Derived.Test.YtebocaicebolaaaSc
import Derived.Test.YtebocaicebolaaaJk
import Derived.Deep.MidRow
import Derived.Test.YtebocaicebolaaaLl
import Derived.Test.YtebocaicebolaaaHb
import Derived.Test.YtebocaicebolaaaGs
import Derived.Laws.StructEq
import Derived.Laws.Small
import Derived.Laws.Cover2
import Derived.Test.YtebocaicebolaaaEi
/- Filters: a filter over samples, the model's. -/
set_option linter.unusedVariables false
set_option linter.unusedSimpArgs false
namespace Go.Proofs.Ytebocaicebolaaa
open Fl Go.RowKit
/-- the memory behind so many samples, and what is made of each -/
def filM (form : Nat) (fu : Bool) (F : Fil) (M : Mem) (X : Nat → O) : Nat → Mem
  | 0 => M
  | k + 1 => stepM form fu F (filM form fu F M X k) (X k)
def filY (form : Nat) (fu : Bool) (F : Fil) (M : Mem) (X : Nat → O) (k : Nat) : O := stepY form fu F (filM form fu F M X k) (X k)
theorem filM_like {form : Nat} {fu : Bool} {F : Fil} {M : Mem} {X Y : Nat → O} {n : Nat} (h : ∀ k, k < n → X k = Y k) : ∀ k, k ≤ n → filM form fu F M X k = filM form fu F M Y k
  | 0, _ => rfl
  | k + 1, hk => by
    unfold filM
    rw [filM_like h k (by omega), h k (by omega)]
theorem filY_like {form : Nat} {fu : Bool} {F : Fil} {M : Mem} {X Y : Nat → O} {n : Nat} (h : ∀ k, k < n → X k = Y k) (k : Nat) (hk : k < n) : filY form fu F M X k = filY form fu F M Y k := by
  unfold filY
  rw [filM_like h k (by omega), h k hk]
theorem filM_cut (form : Nat) (fu : Bool) (F : Fil) (M : Mem) (X : Nat → O) (a : Nat) : ∀ k, filM form fu F (filM form fu F M X a) (fun j => X (a + j)) k = filM form fu F M X (a + k)
  | 0 => rfl
  | k + 1 => by
    show stepM form fu F (filM form fu F (filM form fu F M X a) (fun j => X (a + j)) k) (X (a + k)) = stepM form fu F (filM form fu F M X (a + k)) (X (a + k))
    rw [filM_cut form fu F M X a k]
theorem filY_cut (form : Nat) (fu : Bool) (F : Fil) (M : Mem) (X : Nat → O) (a k : Nat) : filY form fu F (filM form fu F M X a) (fun j => X (a + j)) k = filY form fu F M X (a + k) := by
  unfold filY
  rw [filM_cut]
/-- a list and a memory -/
def PLM (n0 : Nat) (f0 : Nat → O) (M : Mem) (w : World) (e : Ending) (w' : World) : Prop :=
  ∃ (p : Ls) (c : Nat) (m : MemN), e = .returned (.tuple #[.slice p.A p.n c, m.val]) ∧ p.n = n0 ∧ Gs 22 w' w.heap.size p.A p.n p.xs ∧ Are p f0 ∧ FvM m M ∧ w.Since w.heap.size w'
theorem FilAt.since {w w' : World} {g : Nat} {f : FilN} (h : FilAt w g f) (s : w.Since (g + 1) w') : FilAt w' g f :=
  ⟨Nat.lt_of_lt_of_le h.lt s.size, (s.cell (a := ⟨g, 0, none⟩) (by show g < g + 1; omega)).trans h.b0, (s.cell (a := ⟨g, 1, none⟩) (by show g < g + 1; omega)).trans h.b1, (s.cell (a := ⟨g, 2, none⟩) (by show g < g + 1; omega)).trans h.b2, (s.cell (a := ⟨g, 3, none⟩) (by show g < g + 1; omega)).trans h.a1, (s.cell (a := ⟨g, 4, none⟩) (by show g < g + 1; omega)).trans h.a2⟩
theorem Rw.own_lt {lo : Nat} {w : World} {v : Value} {k : Nat} {F : Nat → O} (h : Rw lo w v k F) : ∀ b, v.ownBlock = some b → b < w.heap.size := by
  intro b hb
  obtain ⟨os, h1, _, _⟩ := h
  rcases h1.2 with ⟨rfl, _⟩ | ⟨g, cap, cur, rfl, hg, hb2, _⟩
  · simp [Value.ownBlock] at hb
  · simp [Value.ownBlock] at hb; subst hb; exact (Array.getElem?_eq_some_iff.1 hb2).1
theorem wpList_app1k {ops : Array Oper} {rest : List Oper} {o : Oper} {a : Act} {Q : Exit → Act → World → Prop} {w : World} (hgd : o.guard = none) (s x : Operand)
    (ho : o.op = .call { callee := .builtin .append, args := #[s, x], argTypes := #[27, 27] }) (lo : Nat) (v : Value) (k : Nat) (F : Nat → O) (hs : a.eval s = v) (b r : Nat)
    (hx : a.eval x = .slice (some ⟨b, 0, none⟩) 1 1) (hc : w.cell? ⟨b, 0, none⟩ = some (.float .f32 r)) (hk : k < 1048576) (hlo : lo ≤ w.heap.size) (hr : Hid (Fv .f32 r (F k))) (hR : Rw lo w v k F) (B : Nat) (hB : ∀ b, v.ownBlock = some b → b < B)
    (h : ∀ v' w', Hid (Rw lo w' v' (k + 1) F) → Hid (w.Since lo w') → Hid (∀ i, B ≤ i → i < w.heap.size → w'.heap[i]? = w.heap[i]?) → wpList Try.prog ops Q rest (a.put o.dst v') w') : wpList Try.prog ops Q (o :: rest) a w := by
  obtain ⟨os, h1, h2, h3⟩ := hR
  obtain ⟨i0, hi, hz0, hz1, hz2⟩ := info_parts Try.infoF
  refine wpList_append_own (P := Try.prog) w hgd s x 27 ho lo 22 i0 (.float .f32 0) 1 4 Try.underlying27 hi hz0 hz1 hz2 rfl (by omega) v k (fvl os) hs h1 ⟨b, 0, none⟩ 1 1 [.float .f32 r] hx rfl ?_ ?_ ?_ ?_ hlo ?_
  · intro j u hj
    rcases j with _ | j
    · simp at hj; subst hj; simpa [Addr.add] using hc
    · simp at hj
  · intro u hu; simp at hu; subst hu; rfl
  · unfold maxLen; omega
  · omega
  · intro v' w' hown hg _
    refine h v' w' (Lib.hid ⟨os ++ [r], ?_, h2.snoc hr.out.1, fun j hj => ?_⟩) (Lib.hid ⟨hg.os, hg.tape, hg.output, hg.size, fun i hi => ?_⟩) (Lib.hid fun i h5 h6 => hg.block i h6 fun e => by have := hB i e.symm; omega)
    · rw [← fvl_snoc]; exact hown
    · have hyl : os.length = k := by simpa [fvl] using h1.1
      rw [wd_snoc hyl]
      by_cases e : j < k
      · rw [if_pos e]; exact h3 j e
      · obtain rfl : j = k := by omega
        rw [if_neg e, if_pos rfl]; exact hr.out.2
    · refine hg.block i (by omega) fun e => ?_
      have := own_lo h1 i e.symm
      omega
/-- a memory's block -/
def MemB (T : TypeId) (w : World) (b : Nat) (m : MemN) : Prop := w.heap[b]? = some (.cells #[.float .f32 m.a, .float .f32 m.b, .float .f32 m.c, .float .f32 m.d] T (0, 0))
section
variable {T : TypeId} {w w' : World} {b : Nat} {m : MemN}
theorem MemB.lt (h : MemB T w b m) : b < w.heap.size := (Array.getElem?_eq_some_iff.1 h).1
theorem MemB.c0 (h : MemB T w b m) : w.cell? ⟨b, 0, none⟩ = some (.float .f32 m.a) := by unfold MemB at h; simp [World.cell?, h]
theorem MemB.c1 (h : MemB T w b m) : w.cell? ⟨b, 1, none⟩ = some (.float .f32 m.b) := by unfold MemB at h; simp [World.cell?, h]
theorem MemB.c2 (h : MemB T w b m) : w.cell? ⟨b, 2, none⟩ = some (.float .f32 m.c) := by unfold MemB at h; simp [World.cell?, h]
theorem MemB.c3 (h : MemB T w b m) : w.cell? ⟨b, 3, none⟩ = some (.float .f32 m.d) := by unfold MemB at h; simp [World.cell?, h]
theorem MemB.free (h : MemB T w b m) (q : Nat) : w.frozen? ⟨b, q, none⟩ = false := by unfold MemB at h; simp [World.frozen?, h]
theorem MemB.of (h : MemB T w b m) (e : w'.heap[b]? = w.heap[b]?) : MemB T w' b m := e.trans h
theorem MemB.since {B : Nat} (h : MemB T w b m) (s : w.Since B w') (hb : b < B) : MemB T w' b m := h.of (s.block b hb)
theorem MemB.set (h : MemB T w b m) (x y z u : Nat) : MemB T ((((w.setCell ⟨b, 0, none⟩ (.float .f32 x)).setCell ⟨b, 1, none⟩ (.float .f32 y)).setCell ⟨b, 2, none⟩ (.float .f32 z)).setCell ⟨b, 3, none⟩ (.float .f32 u)) b ⟨x, y, z, u⟩ := by
  unfold MemB at h ⊢
  simp [World.setCell, Array.getElem?_modify, h]
theorem MemB.new (T : TypeId) (w : World) (x y z u : Nat) : MemB T (w.alloc (.cells #[.float .f32 x, .float .f32 y, .float .f32 z, .float .f32 u] T)) w.heap.size ⟨x, y, z, u⟩ := Go.Deep.blk_alloc_new _ _
end
theorem gs_low {T : TypeId} {w w' : World} {lo n g : Nat} {A : Option Addr} {xs : List Nat} (h : Gs T w lo A n xs) (o : On g w w') (hd : g < lo) : Gs T w' lo A n xs :=
  ⟨h.1, h.2.1, fun hn => by
    obtain ⟨b, cs, e, hb, hh, hc⟩ := h.2.2 hn
    exact ⟨b, cs, e, hb, (o.2 b (Array.getElem?_eq_some_iff.1 hh).1 (by omega)).trans hh, hc⟩⟩
set_option maxHeartbeats 8000000 in
set_option maxRecDepth 100000 in
theorem specRun_any (form : Nat) (hform : form ≤ 2) (fu : Bool) (g : Nat) (f : FilN) (m : MemN) (F : Fil) (M : Mem) (A : Option Addr) (n c : Nat) (xs : List Nat) (w : World) (hg : FilAt w g f) (hF : FvF f F) (hM : FvM m M) (hA : Fs w w.heap.size A n xs) (hn : n ≤ 256) :
    Calls Try.prog 60 #[.pointer (some ⟨g, 0, none⟩), .int .i64 (form : Int), .bool fu, m.val, .slice A n c] w (PLM n (filY form fu F M (fun k => ab .f32 (wd xs k))) (filM form fu F M (fun k => ab .f32 (wd xs k)) n) w) := by
  have hst : ∀ (m : MemN) (M : Mem) (x : Nat) (X : O) (v : World), FilAt v g f → FvM m M → Hid (Fv .f32 x X) → Calls Try.prog 72 #[.pointer (some ⟨g, 0, none⟩), .int .i64 (form : Int), .bool fu, .agg #[.float .f32 m.a, .float .f32 m.b, .float .f32 m.c, .float .f32 m.d], .float .f32 x] v (StepPost v (stepY form fu F M X) (stepM form fu F M X)) := by
    intro m M x X v h1 h2 h3
    match form, hform with
    | 0, _ => exact specDir_any fu g f m x F M X v h1 hF h2 h3
    | 1, _ => exact specTur_any fu g f m x F M X v h1 hF h2 h3
    | 2, _ => exact specCan_any fu g f m x F M X v h1 hF h2 h3
  have HT := Lib.hid hst; clear hst
  have HA := Lib.hid hA; clear hA
  have HG := Lib.hid hg
  have hglt := hg.lt
  clear hg
  obtain ⟨ma, mb, mc, md⟩ := m
  unfold MemN.val at *
  go_enter Try.func60, Try.ntmps60
  go_wp2_with fail
  generalize hW1 : World.alloc w _ = W1
  generalize hW2 : World.alloc W1 _ = W2
  generalize hW3 : World.alloc W2 _ = W3
  have z1 : W1.heap.size = w.heap.size + 1 := by rw [← hW1]; simp
  have z2 : W2.heap.size = w.heap.size + 1 + 1 := by rw [← hW2]; simp [z1]
  have b1 : MemB 28 W1 w.heap.size ⟨ma, mb, mc, md⟩ := by rw [← hW1]; exact MemB.new _ _ _ _ _ _
  have b2 : MemB 28 W2 (w.heap.size + 1) ⟨0, 0, 0, 0⟩ := by rw [← hW2, ← z1]; exact MemB.new _ _ _ _ _ _
  have s3 : W2.Since W2.heap.size W3 := by rw [← hW3]; exact (World.Since.refl _ _).alloc (Nat.le_refl _) _
  have s2 : W1.Since W1.heap.size W2 := by rw [← hW2]; exact (World.Since.refl _ _).alloc (Nat.le_refl _) _
  have s1 : w.Since w.heap.size W1 := by rw [← hW1]; exact (World.Since.refl _ _).alloc (Nat.le_refl _) _
  have B1 := Lib.hid ((b1.since s2 (by omega)).since s3 (by omega))
  have B2 := Lib.hid (b2.since s3 (by omega))
  have S3 := Lib.hid ((s1.trans (since_mono s2 (by omega))).trans (since_mono s3 (by omega)))
  have R3 : Hid (Rw (w.heap.size + 1 + 1) W3 (.slice (some ⟨w.heap.size + 1 + 1, 0, none⟩) 0 0) 0 (filY form fu F M (fun k => ab .f32 (wd xs k)))) := Lib.hid (by rw [← hW3, ← z2]; exact Rw.start W2 _ (by omega) _)
  have z3 : w.heap.size + 1 + 1 ≤ W3.heap.size := by have := s3.size; omega
  clear hW1 hW2 hW3 s1 s2 s3 b1 b2
  go_loopw [12, 13] (fun v i wr => ∃ (k : Nat) (q : MemN), k ≤ n ∧ i = .int .i64 (k : Int) ∧ Rw (w.heap.size + 1 + 1) wr v k (filY form fu F M (fun k => ab .f32 (wd xs k))) ∧ MemB 28 wr w.heap.size q ∧ MemB 28 wr (w.heap.size + 1) ⟨0, 0, 0, 0⟩ ∧ FvM q (filM form fu F M (fun k => ab .f32 (wd xs k)) k) ∧ w.Since w.heap.size wr ∧ w.heap.size + 1 + 1 ≤ wr.heap.size) (fun _ i _ => n - (intOf i).toNat)
  case atStart => exact ⟨0, _, Nat.zero_le _, rfl, R3.out, B1.out, B2.out, hM, S3.out, z3⟩
  case round =>
    obtain ⟨k, q, hk, rfl, hr, hb1, hb2, hq, hs, hz⟩ := hrel
    have HR := Lib.hid hr; have HB1 := Lib.hid hb1; have HB2 := Lib.hid hb2; have HQ := Lib.hid hq; have HS := Lib.hid hs
    clear hr hb1 hb2 hq hs
    by_cases hlt : k < n
    · obtain ⟨gg, off, rfl, hgg, hcc⟩ := HA.out.2.2 (by omega)
      have hcell : wr.cell? ⟨gg, off + k, none⟩ = some (.float .f32 (wd xs k)) := (HS.out.cell (a := ⟨gg, off + k, none⟩) hgg).trans (hcc k hlt)
      have hx : Hid (Fv .f32 (wd xs k) (ab .f32 (wd xs k))) := Lib.hid ⟨HA.out.2.1.at_ k, rfl⟩
      have HGr := Lib.hid (HG.out.since (since_mono HS.out (by omega)))
      have m0 := HB1.out.c0; have m1 := HB1.out.c1; have m2 := HB1.out.c2; have m3 := HB1.out.c3
      clear hcc
      go_wp2_with fail
      have hgw : g + 1 ≤ wr.heap.size := by omega
      have hgg9 : gg < wr.heap.size := by omega
      have hbb9 : w.heap.size < wr.heap.size := by omega
      go_region_with (go_at_call 72; refine (HT.out q _ (wd xs k) _ _ (HGr.out.since (since_mono (by (repeat (first | (with_reducible refine Fl.sinDrew ?_) | (with_reducible refine World.Since.drew ?_) | (with_reducible refine Fl.sinSet ?_ ?_; rotate_left) | (with_reducible refine Fl.sinAlloc ?_ ?_; rotate_left) | with_reducible exact World.Since.refl _ _ | with_reducible assumption | (with_reducible refine Fl.sinStep (by with_reducible assumption) ?_))); all_goals (first | omega | (simp; done) | (simp; omega) | (simp [go_sem]; done) | (simp [go_sem]; omega))) hgw)) HQ.out hx).mono ?_; rintro e w2 ⟨y, ⟨ra, rb, rc, rd⟩, rfl, hy, hm, hs⟩; (try replace hs := sinUD hs); (try have y20 : wr.heap.size < w2.heap.size := (by have hsz := hs.size; (try simp only [World.drew, World.drewN, Go.Deep.nblk_alloc, Go.Deep.nblk_setCell] at hsz); omega)); obtain ⟨hc2, hf2⟩ := Fl.sinCell hs; have HSY := Lib.hid hs; clear hs; have HMY := Lib.hid hm; clear hm; simp only [MemN.val_mk])
      all_goals
        first
        | (generalize hV : World.alloc w2 _ = V
           have SV : Hid (wr.Since wr.heap.size V) := Lib.hid (by rw [← hV]; exact HSY.out.alloc HSY.out.size _)
           have pl := HSY.out.size
           have PB : Hid (MemB 28 V w2.heap.size ⟨ra, rb, rc, rd⟩) := Lib.hid (by rw [← hV]; exact MemB.new _ _ _ _ _ _)
           skip)
        | (generalize hV : World.setCell _ _ _ = V
           have pl := Nat.le_refl wr.heap.size
           have hsy2 : wr.Since wr.heap.size w2 := ((World.Since.refl _ _).alloc (Nat.le_refl _) _).trans (since_mono HSY.out (by simp))
           have SV : Hid (wr.Since wr.heap.size V) := Lib.hid (by rw [← hV]; exact (((hsy2.setCell (Nat.le_refl _) _).setCell (Nat.le_refl _) _).setCell (Nat.le_refl _) _).setCell (Nat.le_refl _) _)
           have PB : Hid (MemB 28 V wr.heap.size ⟨ra, rb, rc, rd⟩) := Lib.hid (by rw [← hV]; exact MemB.set (m := ⟨0, 0, 0, 0⟩) ((HSY.out.block _ (by simp)).trans (MemB.new _ _ _ _ _ _)) _ _ _ _)
           clear hsy2)
        clear hV
        have HRV := Lib.hid (HR.out.since SV.out)
        have hol := Lib.hid HR.out.own_lt
        have hszV := SV.out.size
        have HBV := Lib.hid (HB1.out.since SV.out hbb9)
        have HCV := Lib.hid (HB2.out.since SV.out (by omega))
        have hplt := PB.out.lt
        go_wp2_with (at_builtin; refine wpList_app1k rfl (.tmp 35) (.tmp 37) rfl (w.heap.size + 1 + 1) _ k _ rfl _ _ rfl (by simp [go_sem]) (by omega) (by simp; omega) hy (HRV.out.alloc _) wr.heap.size hol.out ?_; intro v' w4 hR4 hS4 hK4; have PB4 := Lib.hid (PB.out.of ((hK4.out _ pl (by simp; omega)).trans (((World.Since.refl V.heap.size V).alloc (Nat.le_refl _) _).block _ hplt))); have S4 := Lib.hid (((World.Since.refl _ V).alloc (show w.heap.size + 1 + 1 ≤ V.heap.size by omega) _).trans hS4.out); have HB4 := Lib.hid (HBV.out.since S4.out (by omega)); have HC4 := Lib.hid (HCV.out.since S4.out (by omega)); have p0 := PB4.out.c0; have p1 := PB4.out.c1; have p2 := PB4.out.c2; have p3 := PB4.out.c3; have e0 := HB4.out.c0; have e1 := HB4.out.c1; have e2 := HB4.out.c2; have e3 := HB4.out.c3; have l0 := HB4.out.free 0; have l1 := HB4.out.free 1; have l2 := HB4.out.free 2; have l3 := HB4.out.free 3)
        have OO : Hid (On w.heap.size w4 ((((w4.setCell ⟨w.heap.size, 0, none⟩ (.float .f32 ra)).setCell ⟨w.heap.size, 1, none⟩ (.float .f32 rb)).setCell ⟨w.heap.size, 2, none⟩ (.float .f32 rc)).setCell ⟨w.heap.size, 3, none⟩ (.float .f32 rd))) := Lib.hid (((((On.refl _ _).set _ _).set _ _).set _ _).set _ _)
        have NB := Lib.hid (HB4.out.set ra rb rc rd)
        have hz4 := S4.out.size
        go_roundw
        case rel => exact ⟨k + 1, ⟨ra, rb, rc, rd⟩, by omega, by go_num, hR4.out.on OO.out (by omega), NB.out, HC4.out.of (OO.out.2 _ HC4.out.lt (by omega)), HMY.out, (HS.out.trans (since_mono SV.out (by omega))).trans ((since_mono S4.out (by omega)).trans (since_mono OO.out.1 (Nat.le_refl _))), by have := OO.out.1.size; omega⟩
        case measure => simp [intOf]; omega
    · obtain rfl : k = n := by omega
      obtain ⟨p, cp, rfl, rfl, hg2, ha2⟩ := HR.out.done
      have HG2 := Lib.hid hg2; have HA2 := Lib.hid ha2; clear hg2 ha2
      have m0 := HB1.out.c0; have m1 := HB1.out.c1; have m2 := HB1.out.c2; have m3 := HB1.out.c3
      have n0 := HB2.out.c0; have n1 := HB2.out.c1; have n2 := HB2.out.c2; have n3 := HB2.out.c3
      have f0 := HB2.out.free 0; have f1 := HB2.out.free 1; have f2 := HB2.out.free 2; have f3 := HB2.out.free 3
      go_wp2_with fail
      go_region
      all_goals
        have OO : Hid (On (w.heap.size + 1) wr (((((wr.setCell ⟨w.heap.size + 1, 0, none⟩ (.float .f32 q.a)).setCell ⟨w.heap.size + 1, 1, none⟩ (.float .f32 q.b)).setCell ⟨w.heap.size + 1, 2, none⟩ (.float .f32 q.c)).setCell ⟨w.heap.size + 1, 3, none⟩ (.float .f32 q.d)))) := Lib.hid (((((On.refl _ _).set _ _).set _ _).set _ _).set _ _)
        have NB := Lib.hid (HB2.out.set q.a q.b q.c q.d)
        generalize hV : World.setCell _ _ _ = V at *
        have g0 := NB.out.c0; have g1 := NB.out.c1; have g2 := NB.out.c2; have g3 := NB.out.c3
        have SV : Hid (w.Since w.heap.size V) := Lib.hid (HS.out.trans (since_mono OO.out.1 (by omega)))
        have GV := Lib.hid ((HG2.out.less (show w.heap.size ≤ w.heap.size + 1 + 1 by omega)))
        go_wp2
        exact bodyPost_ret (v := .tuple #[.slice p.A p.n cp, .agg #[.float .f32 q.a, .float .f32 q.b, .float .f32 q.c, .float .f32 q.d]]) (by simp [results, Try.results60, go_sem, g0, g1, g2, g3]) rfl
          ⟨p, cp, q, rfl, rfl, (gs_low HG2.out OO.out (by omega)).less (by omega), HA2.out, HQ.out, by first | exact SV.out | exact since_drewN SV.out _⟩
end Go.Proofs.Ytebocaicebolaaa

/- Filters: a filter over samples in their places, the program's. -/
set_option linter.unusedVariables false
set_option linter.unusedSimpArgs false
namespace Go.Proofs.Ytebocaicebolaaa
open Fl Go.RowKit
/-- a block of so many numbers, the first k of which are the new ones -/
def Pr (w : World) (g n k : Nat) (Y X : Nat → O) : Prop := ∃ xs : List Nat, xs.length = n ∧ Small xs ∧ GCells w g n (fv xs) ∧ ∀ j, j < n → ab .f32 (wd xs j) = if j < k then Y j else X j
section
variable {w w' : World} {g n k : Nat} {Y X : Nat → O}
theorem Pr.put (h : Pr w g n k Y X) (hk : k < n) {r : Nat} (hr : Hid (Fv .f32 r (Y k))) : Pr (w.setCell ⟨g, k, none⟩ (.float .f32 r)) g n (k + 1) Y X := by
  obtain ⟨xs, h1, h2, h3, h4⟩ := h
  refine ⟨xs.set k r, by rw [List.length_set, h1], fun x hx => ?_, (h3.set k _).congr (fun j hj => ?_), fun j hj => ?_⟩
  · rcases List.mem_or_eq_of_mem_set hx with h | rfl
    · exact h2 x h
    · exact hr.out.1
  · unfold fv wd
    by_cases e : j = k
    · subst e; rw [if_pos rfl]; simp [List.getD_eq_getElem?_getD, List.getElem?_set, h1, hj]
    · rw [if_neg e]; simp [List.getD_eq_getElem?_getD, List.getElem?_set, show ¬ (k = j) from fun h => e h.symm]
  · unfold wd
    by_cases e : j = k
    · subst e
      rw [if_pos (by omega)]
      simp [List.getD_eq_getElem?_getD, List.getElem?_set, h1, hk]
      exact hr.out.2
    · have := h4 j hj
      unfold wd at this
      rw [show (if j < k + 1 then Y j else X j) = if j < k then Y j else X j by by_cases e2 : j < k; rw [if_pos e2, if_pos (by omega)]; rw [if_neg e2, if_neg (by omega)]]
      simpa [List.getD_eq_getElem?_getD, List.getElem?_set, show ¬ (k = j) from fun h => e h.symm] using this
theorem Pr.keep (h : Pr w g n k Y X) (e : w'.heap[g]? = w.heap[g]?) : Pr w' g n k Y X := by
  obtain ⟨xs, h1, h2, ⟨cs, hb, hc⟩, h4⟩ := h
  exact ⟨xs, h1, h2, ⟨cs, e.trans hb, hc⟩, h4⟩
theorem Pr.lt (h : Pr w g n k Y X) : g < w.heap.size := by
  obtain ⟨xs, h1, h2, h3, h4⟩ := h
  exact h3.lt
theorem Pr.cell (h : Pr w g n k Y X) {j : Nat} (hj : j < n) (hk : k ≤ j) : ∃ x, w.cell? ⟨g, j, none⟩ = some (.float .f32 x) ∧ Hid (Fv .f32 x (X j)) := by
  obtain ⟨xs, h1, h2, h3, h4⟩ := h
  exact ⟨wd xs j, h3.cell hj, Lib.hid ⟨h2.at_ j, by rw [h4 j hj, if_neg (by omega)]⟩⟩
theorem Pr.free (h : Pr w g n k Y X) (j : Nat) : w.frozen? ⟨g, j, none⟩ = false := by
  obtain ⟨xs, h1, h2, h3, h4⟩ := h
  exact h3.free j
theorem Pr.done {lo : Nat} (h : Pr w g n n Y X) (hl : lo ≤ g) : ∃ xs, Gs 22 w lo (some ⟨g, 0, none⟩) n xs ∧ Are ⟨some ⟨g, 0, none⟩, n, xs⟩ Y := by
  obtain ⟨xs, h1, h2, ⟨cs, hb, hc⟩, h4⟩ := h
  exact ⟨xs, ⟨h1, h2, fun _ => ⟨g, cs, rfl, hl, hb, hc⟩⟩, fun j hj => by rw [h4 j hj, if_pos hj]⟩
theorem Pr.of {lo : Nat} {xs : List Nat} (h : Gs 22 w lo (some ⟨g, 0, none⟩) n xs) (h0 : 0 < n) (hx : ∀ j, j < n → ab .f32 (wd xs j) = X j) : lo ≤ g ∧ Pr w g n 0 Y X := by
  obtain ⟨h1, h2, h3⟩ := h
  obtain ⟨g', cs, e, hl, hb, hc⟩ := h3 h0
  injection e with e
  injection e with e1 _ _
  subst e1
  exact ⟨hl, xs, h1, h2, ⟨cs, hb, hc⟩, fun j hj => by rw [if_neg (by omega)]; exact hx j hj⟩
end
def isNext (form : Nat) (k : FuncId) : Prop := (form = 0 ∧ k = 69) ∨ (form = 1 ∧ k = 88) ∨ (form = 2 ∧ k = 89)
theorem next_step {form : Nat} {k : FuncId} (h : isNext form k) (fu : Bool) (f : FilN) (m : MemN) (x : Nat) (F : Fil) (M : Mem) (X : O) (w : World) (hF : FvF f F) (hM : FvM m M) (hx : Hid (Fv .f32 x X)) :
    Calls Try.prog 74 #[setV f fu, .func (.func k) #[] #[], m.val, .float .f32 x] w (StepPost w (stepY form fu F M X) (stepM form fu F M X)) := by
  rw [stepM_raw]
  rcases h with ⟨rfl, rfl⟩ | ⟨rfl, rfl⟩ | ⟨rfl, rfl⟩
  · exact nextDir_any fu f m x F M X w hF hM hx
  · exact nextTur_any fu f m x F M X w hF hM hx
  · exact nextCan_any fu f m x F M X w hF hM hx
set_option maxHeartbeats 8000000 in
set_option maxRecDepth 100000 in
theorem implRun_any (form : Nat) (kk : FuncId) (hform : isNext form kk) (fu : Bool) (f : FilN) (m : MemN) (F : Fil) (M : Mem) (A : Option Addr) (n c g lo : Nat) (X : Nat → O) (w : World) (hF : FvF f F) (hM : FvM m M) (hA : 0 < n → A = some ⟨g, 0, none⟩ ∧ lo ≤ g ∧ Pr w g n 0 (filY form fu F M X) X) (hn : n ≤ 256) (hlo : lo ≤ w.heap.size) :
    Calls Try.prog 65 #[setV f fu, .func (.func kk) #[] #[], m.val, .slice A n c] w fun e w' => ∃ m' : MemN, e = .returned m'.val ∧ FvM m' (filM form fu F M X n) ∧ (0 < n → Pr w' g n n (filY form fu F M X) X) ∧ w.Since lo w' ∧ (∀ i, i < w.heap.size → i ≠ g → w'.heap[i]? = w.heap[i]?) := by
  have HT := Lib.hid fun (m : MemN) (M : Mem) (x : Nat) (X : O) (v : World) (hM : FvM m M) (hx : Hid (Fv .f32 x X)) => next_step hform fu f m x F M X v hF hM hx
  have HA := Lib.hid hA; clear hA
  obtain ⟨b0, b1, b2, a1, a2⟩ := f
  obtain ⟨ma, mb, mc, md⟩ := m
  unfold MemN.val at *
  unfold setV at *
  go_enter Try.func65, Try.ntmps65
  go_wp2_with fail
  generalize hW1 : World.alloc w _ = W1
  generalize hW2 : World.alloc W1 _ = W2
  generalize hW3 : World.alloc W2 _ = W3
  have z1 : W1.heap.size = w.heap.size + 1 := by rw [← hW1]; simp
  have z2 : W2.heap.size = w.heap.size + 1 + 1 := by rw [← hW2]; simp [z1]
  have z3 : W3.heap.size = w.heap.size + 1 + 1 + 1 := by rw [← hW3]; simp [z2]
  have b0 : W1.heap[w.heap.size]? = some (.cells #[.float .f32 b0, .float .f32 b1, .float .f32 b2, .float .f32 a1, .float .f32 a2, .bool fu] 95 (0, 0)) := by rw [← hW1]; exact Go.Deep.blk_alloc_new _ _
  have b1 : MemB 93 W2 (w.heap.size + 1) ⟨ma, mb, mc, md⟩ := by rw [← hW2, ← z1]; exact MemB.new _ _ _ _ _ _
  have b2 : MemB 93 W3 (w.heap.size + 1 + 1) ⟨0, 0, 0, 0⟩ := by rw [← hW3, ← z2]; exact MemB.new _ _ _ _ _ _
  have s1 : w.Since w.heap.size W1 := by rw [← hW1]; exact (World.Since.refl _ _).alloc (Nat.le_refl _) _
  have s2 : W1.Since W1.heap.size W2 := by rw [← hW2]; exact (World.Since.refl _ _).alloc (Nat.le_refl _) _
  have s3 : W2.Since W2.heap.size W3 := by rw [← hW3]; exact (World.Since.refl _ _).alloc (Nat.le_refl _) _
  have C0 := Lib.hid (((s3.block _ (by omega)).trans (s2.block _ (by omega))).trans b0)
  have B1 := Lib.hid (b1.since s3 (by omega))
  have B2 := Lib.hid b2
  have S3 : Hid (w.Since w.heap.size W3) := Lib.hid ((s1.trans (since_mono s2 (by omega))).trans (since_mono s3 (by omega)))
  clear hW1 hW2 hW3 s1 s2 s3 b0 b1 b2 z1 z2
  go_loopw [13] (fun i wr => ∃ (k : Nat) (q : MemN), k ≤ n ∧ i = .int .i64 (k : Int) ∧ (0 < n → Pr wr g n k (filY form fu F M X) X) ∧ wr.heap[w.heap.size]? = W3.heap[w.heap.size]? ∧ MemB 93 wr (w.heap.size + 1) q ∧ MemB 93 wr (w.heap.size + 1 + 1) ⟨0, 0, 0, 0⟩ ∧ FvM q (filM form fu F M X k) ∧ w.Since lo wr ∧ (∀ i, i < w.heap.size → i ≠ g → wr.heap[i]? = w.heap[i]?) ∧ w.heap.size + 1 + 1 + 1 ≤ wr.heap.size) (fun i _ => n - (intOf i).toNat)
  case atStart => exact ⟨0, _, Nat.zero_le _, rfl, fun h => (HA.out h).2.2.keep (S3.out.block _ (HA.out h).2.2.lt), rfl, B1.out, B2.out, hM, since_mono S3.out hlo, fun i hi _ => S3.out.block i hi, by omega⟩
  case round =>
    obtain ⟨k, q, hk, rfl, hp, hc0, hb1, hb2, hq, hs, ho, hz⟩ := hrel
    have HP := Lib.hid hp; have HC0 := Lib.hid (hc0.trans C0.out); have HC9 := Lib.hid hc0; have HB1 := Lib.hid hb1; have HB2 := Lib.hid hb2; have HQ := Lib.hid hq; have HS := Lib.hid hs; have HO := Lib.hid ho
    clear hp hc0 hb1 hb2 hq hs ho
    by_cases hlt : k < n
    · obtain ⟨rfl, hlg, hpw⟩ := HA.out (by omega)
      have hgw := hpw.lt
      have hpk := HP.out (by omega)
      obtain ⟨x, hcell, hx⟩ := hpk.cell hlt (Nat.le_refl _)
      have hfg := hpk.free k
      have hggr : g < wr.heap.size := by omega
      have HPK := Lib.hid hpk
      have m0 := HB1.out.c0; have m1 := HB1.out.c1; have m2 := HB1.out.c2; have m3 := HB1.out.c3
      have k0 : wr.cell? ⟨w.heap.size, 0, none⟩ = some (.float .f32 b0) := by have := HC0.out; simp [World.cell?, this]
      have k1 : wr.cell? ⟨w.heap.size, 1, none⟩ = some (.float .f32 b1) := by have := HC0.out; simp [World.cell?, this]
      have k2 : wr.cell? ⟨w.heap.size, 2, none⟩ = some (.float .f32 b2) := by have := HC0.out; simp [World.cell?, this]
      have k3 : wr.cell? ⟨w.heap.size, 3, none⟩ = some (.float .f32 a1) := by have := HC0.out; simp [World.cell?, this]
      have k4 : wr.cell? ⟨w.heap.size, 4, none⟩ = some (.float .f32 a2) := by have := HC0.out; simp [World.cell?, this]
      have k5 : wr.cell? ⟨w.heap.size, 5, none⟩ = some (.bool fu) := by have := HC0.out; simp [World.cell?, this]
      clear hpk hpw
      go_wp2_with fail
      refine (HT.out q _ x (X k) wr HQ.out hx).mono ?_
      rintro e w2 ⟨y, ⟨ra, rb, rc, rd⟩, rfl, hy, hm, hs⟩
      have HM2 := Lib.hid hm
      have hsz := hs.size
      have P2 := Lib.hid (HPK.out.keep (hs.block _ hggr))
      have E1 := Lib.hid (HB1.out.since hs (by omega))
      have E2 := Lib.hid (HB2.out.since hs (by omega))
      have E0 := Lib.hid ((hs.block w.heap.size (by omega)).trans HC9.out)
      have T2 := Lib.hid (HS.out.trans (since_mono hs (show lo ≤ wr.heap.size by omega)))
      have O2 : Hid (∀ i, i < w.heap.size → i ≠ g → w2.heap[i]? = w.heap[i]?) := Lib.hid fun i hi hn => (hs.block i (by omega)).trans (HO.out i hi hn)
      clear hs hm hcell hfg m0 m1 m2 m3 k0 k1 k2 k3 k4 k5
      obtain ⟨x', hcell, _⟩ := P2.out.cell hlt (Nat.le_refl _)
      have hfg := P2.out.free k
      have m0 := E1.out.c0; have m1 := E1.out.c1; have m2 := E1.out.c2; have m3 := E1.out.c3
      have l0 := E1.out.free 0; have l1 := E1.out.free 1; have l2 := E1.out.free 2; have l3 := E1.out.free 3
      have hne : ¬ g = w.heap.size + 1 := by omega
      have hne2 : ¬ w.heap.size + 1 = g := by omega
      simp only [MemN.val_mk]
      have P3 := Lib.hid (P2.out.put hlt hy)
      have OO : Hid (On (w.heap.size + 1) (w2.setCell ⟨g, k, none⟩ (.float .f32 y)) (((((w2.setCell ⟨g, k, none⟩ (.float .f32 y)).setCell ⟨w.heap.size + 1, 0, none⟩ (.float .f32 ra)).setCell ⟨w.heap.size + 1, 1, none⟩ (.float .f32 rb)).setCell ⟨w.heap.size + 1, 2, none⟩ (.float .f32 rc)).setCell ⟨w.heap.size + 1, 3, none⟩ (.float .f32 rd))) := Lib.hid (((((On.refl _ _).set _ _).set _ _).set _ _).set _ _)
      have NB := Lib.hid ((E1.out.of (w' := w2.setCell ⟨g, k, none⟩ (.float .f32 y)) (Go.Deep.blk_setCell_other _ _ _ _ hne2)).set ra rb rc rd)
      have oth : Hid (∀ i, i < w2.heap.size → i ≠ g → (w2.setCell ⟨g, k, none⟩ (.float .f32 y)).heap[i]? = w2.heap[i]?) := Lib.hid fun i _ hn => Go.Deep.blk_setCell_other _ _ _ _ hn
      have hsz3 : (w2.setCell ⟨g, k, none⟩ (.float .f32 y)).heap.size = w2.heap.size := Go.Deep.nblk_setCell _ _ _
      go_wp2_with fail
      go_roundw
      case rel => exact ⟨k + 1, ⟨ra, rb, rc, rd⟩, by omega, by go_num, fun _ => P3.out.keep (OO.out.2 _ (by omega) hne), (OO.out.2 _ (by omega) (by omega)).trans ((oth.out _ (by omega) (by omega)).trans E0.out), NB.out, E2.out.of ((OO.out.2 _ (by omega) (by omega)).trans (oth.out _ (by omega) (by omega))), HM2.out, (T2.out.setCell hlg _).trans (since_mono OO.out.1 (by omega)), fun i hi hn => (OO.out.2 _ (by omega) (by omega)).trans ((oth.out _ (by omega) hn).trans (O2.out i hi hn)), by have := OO.out.1.size; omega⟩
      case measure => simp [intOf]; omega
    · obtain rfl : k = n := by omega
      have m0 := HB1.out.c0; have m1 := HB1.out.c1; have m2 := HB1.out.c2; have m3 := HB1.out.c3
      have n0 := HB2.out.c0; have n1 := HB2.out.c1; have n2 := HB2.out.c2; have n3 := HB2.out.c3
      have f0 := HB2.out.free 0; have f1 := HB2.out.free 1; have f2 := HB2.out.free 2; have f3 := HB2.out.free 3
      have OO : Hid (On (w.heap.size + 1 + 1) wr (((((wr.setCell ⟨w.heap.size + 1 + 1, 0, none⟩ (.float .f32 q.a)).setCell ⟨w.heap.size + 1 + 1, 1, none⟩ (.float .f32 q.b)).setCell ⟨w.heap.size + 1 + 1, 2, none⟩ (.float .f32 q.c)).setCell ⟨w.heap.size + 1 + 1, 3, none⟩ (.float .f32 q.d)))) := Lib.hid (((((On.refl _ _).set _ _).set _ _).set _ _).set _ _)
      have NB := Lib.hid (HB2.out.set q.a q.b q.c q.d)
      go_wp2_with fail
      generalize hV : World.setCell _ _ _ = V at *
      have g0 := NB.out.c0; have g1 := NB.out.c1; have g2 := NB.out.c2; have g3 := NB.out.c3
      exact bodyPost_ret (v := .agg #[.float .f32 q.a, .float .f32 q.b, .float .f32 q.c, .float .f32 q.d]) (by simp [results, Try.results65, go_sem, g0, g1, g2, g3]) rfl
        ⟨q, rfl, HQ.out, fun h => (HP.out h).keep (OO.out.2 _ (HP.out h).lt (by have := (HA.out h).2.2.lt; omega)), HS.out.trans (since_mono OO.out.1 (by omega)), fun i hi hn => (OO.out.2 _ (by omega) (by omega)).trans (HO.out i hi hn)⟩
end Go.Proofs.Ytebocaicebolaaa

/- Filters: impulses, both sides. -/
set_option linter.unusedVariables false
set_option linter.unusedSimpArgs false
namespace Go.Proofs.Ytebocaicebolaaa
open Fl Go.RowKit
def impX (k : Nat) : O := if k = 0 then some 1065353216 else some 0
def impL (n : Nat) : List Nat := (List.range n).map fun j => if j = 0 then 1065353216 else 0
theorem impL_wd {n j : Nat} (h : j < n) : wd (impL n) j = if j = 0 then 1065353216 else 0 := by unfold impL wd; simp [h]
theorem imp_are (n : Nat) (A : Option Addr) : Are ⟨A, n, impL n⟩ impX := fun j (hj : j < n) => by
  show ab .f32 (wd (impL n) j) = impX j
  rw [impL_wd hj]
  unfold impX
  by_cases e : j = 0
  · rw [if_pos e, if_pos e, ab32, if_neg (by decide)]
  · rw [if_neg e, if_neg e, ab32, if_neg (by decide)]
theorem imp_gs {w : World} {g n lo : Nat} (hl : lo ≤ g) (h : GCells w g n (fun j => .float .f32 (if j = 0 then 1065353216 else 0))) : Gs 22 w lo (some ⟨g, 0, none⟩) n (impL n) := by
  obtain ⟨cs, hb, hc⟩ := h
  refine ⟨by simp [impL], fun x hx => ?_, fun _ => ⟨g, cs, rfl, hl, hb, fun k hk => ?_⟩⟩
  · unfold impL at hx
    obtain ⟨j, _, rfl⟩ := List.mem_map.1 hx
    split <;> decide
  · rw [hc k hk]; unfold fv; rw [impL_wd hk]
theorem made_cells (w : World) (n : Nat) : GCells (w.alloc (.cells (madeCells #[.float .f32 0] n) 22)) w.heap.size n (fun _ => .float .f32 0) := by
  obtain ⟨cs, hb, _, hc⟩ := World.rowIs_made w (.float .f32 0) n 22
  exact ⟨cs, hb, fun j hj => hc j hj⟩
set_option maxHeartbeats 4000000 in
set_option maxRecDepth 100000 in
theorem impulse_any (n : Nat) (hn : n ≤ 256) (w : World) :
    Calls Try.prog 64 #[.int .i64 (n : Int)] w fun e w' => e = .returned (.slice (some ⟨w.heap.size, 0, none⟩) n n) ∧ Gs 22 w' w.heap.size (some ⟨w.heap.size, 0, none⟩) n (impL n) ∧ w.Since w.heap.size w' := by
  have hmk := fun W => run_make_row' (P := Try.prog) 27 22 (.float .f32 0) 4 Try.underlying27 Try.infoF rfl .i64 .i64 n (by omega) (by omega) W
  have G1 := Lib.hid (made_cells w n)
  by_cases h0 : n = 0
  · have hd : decide (0 < n) = false := decide_eq_false (by omega)
    have H0 := Lib.hid h0; clear h0
    go_enter Try.func64, Try.ntmps64
    go_wp2
    go_ret
    exact ⟨rfl, imp_gs (Nat.le_refl _) (G1.out.congr fun j hj => by have := H0.out; omega), (World.Since.refl _ _).alloc (Nat.le_refl _) _⟩
  · have hd : decide (0 < n) = true := decide_eq_true (by omega)
    have hc0 := G1.out.cell (j := 0) (by omega)
    have hf0 := G1.out.free 0
    have G2 := Lib.hid ((G1.out.set 0 (.float .f32 1065353216)).congr (f' := fun j => .float .f32 (if j = 0 then 1065353216 else 0)) fun j _ => by by_cases e : j = 0 <;> simp [e])
    have S1 : Hid (w.Since w.heap.size ((w.alloc (.cells (madeCells #[.float .f32 0] n) 22)).setCell ⟨w.heap.size, 0, none⟩ (.float .f32 1065353216))) := Lib.hid (((World.Since.refl _ _).alloc (Nat.le_refl _) _).setCell (Nat.le_refl _) _)
    go_enter Try.func64, Try.ntmps64
    go_wp2
    go_ret
    exact ⟨rfl, imp_gs (Nat.le_refl _) (by simpa [go_sem] using G2.out), by simpa [go_sem] using S1.out⟩
theorem noM_fv : FvM ⟨0, 0, 0, 0⟩ noM := fvNo
set_option maxHeartbeats 8000000 in
set_option maxRecDepth 100000 in
theorem specImp_ok (form : Nat) (hform : form ≤ 2) (f : FilN) (F : Fil) (n : Nat) (w : World) (hF : FvF f F) (hn : n ≤ 256) :
    Calls Try.prog 22 #[f.val, .int .i64 (form : Int), .int .i64 (n : Int)] w (PLB n (filY form false F noM impX) true w) := by
  have hmk := fun W => run_make_row' (P := Try.prog) 27 22 (.float .f32 0) 4 Try.underlying27 Try.infoF rfl .i64 .i64 n (by omega) (by omega) W
  have h1 : inB (form : Int) 0 2 = true := by simp only [inB, Bool.and_eq_true, decide_eq_true_eq]; omega
  have h2 : inB (n : Int) 0 256 = true := by simp only [inB, Bool.and_eq_true, decide_eq_true_eq]; omega
  have HIN : Hid (∀ v, Calls Try.prog 62 #[.int .i64 (n : Int), .int .i64 0, .int .i64 256] v fun e w' => e = .returned (.bool true) ∧ v = w') := Lib.hid fun v => by have := l00In_any (n : Int) 0 256 v; rw [h2] at this; exact this
  obtain ⟨b0, b1, b2, a1, a2⟩ := f
  unfold FilN.val
  obtain ⟨W1, hW1⟩ : ∃ W, Hid (w.alloc (.cells #[.float .f32 b0, .float .f32 b1, .float .f32 b2, .float .f32 a1, .float .f32 a2] 31) = W) := ⟨_, Lib.hid rfl⟩
  have z1 : W1.heap.size = w.heap.size + 1 := by rw [← hW1.out]; simp
  have FA : FilAt W1 w.heap.size ⟨b0, b1, b2, a1, a2⟩ := by rw [← hW1.out]; exact ⟨by simp, by simp [go_sem], by simp [go_sem], by simp [go_sem], by simp [go_sem], by simp [go_sem]⟩
  have S1 : w.Since w.heap.size W1 := by rw [← hW1.out]; exact (World.Since.refl _ _).alloc (Nat.le_refl _) _
  have G1 := made_cells W1 n
  have S2 : W1.Since W1.heap.size (W1.alloc (.cells (madeCells #[.float .f32 0] n) 22)) := (World.Since.refl _ _).alloc (Nat.le_refl _) _
  have HFA := Lib.hid FA; have HS1 := Lib.hid S1; have HG1 := Lib.hid G1; have HS2 := Lib.hid S2; clear FA S1 G1 S2
  -- what is behind the samples
  have rest : ∀ V : World, Gs 22 V w.heap.size (some ⟨w.heap.size + 1, 0, none⟩) n (impL n) → W1.Since W1.heap.size V → Calls Try.prog 60 #[.pointer (some ⟨w.heap.size, 0, none⟩), .int .i64 (form : Int), .bool false, .agg #[.float .f32 0, .float .f32 0, .float .f32 0, .float .f32 0], .slice (some ⟨w.heap.size + 1, 0, none⟩) n n] V (PLM n (filY form false F noM impX) (filM form false F noM impX n) V) := fun V hg hs => by
    have h9 := specRun_any form hform false w.heap.size ⟨b0, b1, b2, a1, a2⟩ ⟨0, 0, 0, 0⟩ F noM (some ⟨w.heap.size + 1, 0, none⟩) n n (impL n) V (HFA.out.since (since_mono hs (by omega))) hF noM_fv hg.read hn
    simp only [MemN.val] at h9
    refine h9.mono fun e w' => ?_
    rintro ⟨p, c, m, he, hp, hg, ha, hm, hs⟩
    have hl : ∀ k, k < n → (fun k => ab .f32 (wd (impL n) k)) k = impX k := fun k hk => imp_are n none k hk
    exact ⟨p, c, m, he, hp, hg, fun k hk => (ha k hk).trans (filY_like hl k (by omega)), by rw [← filM_like hl n (Nat.le_refl _)]; exact hm, hs⟩
  have REST := Lib.hid rest; clear rest
  go_enter Try.func22, Try.ntmps22
  go_wp2_with fail
  rw [hW1.out]
  go_at_call 58
  refine (l02Form_any _ _ _ h1).mono ?_
  rintro e w' ⟨rfl, rfl⟩
  have HG1' := HG1.out
  rw [z1] at HG1'
  have HG2 := Lib.hid HG1'; clear HG1' HG1
  have hlw : w.heap.size ≤ w.heap.size + 1 := by omega
  cases hd : decide (0 < n)
  · have hG := Lib.hid (imp_gs (n := n) hlw (HG2.out.congr fun j hj => by have := of_decide_eq_false hd; omega))
    go_wp2_with (go_at_call 62; refine (HIN.out _).mono ?_; rintro e w' ⟨rfl, rfl⟩)
    generalize hV : World.alloc W1 _ = V at *
    refine (REST.out V hG.out HS2.out).mono ?_
    rintro e w5 ⟨p, c, m, rfl, rfl, hg, ha, hm, hs⟩
    obtain ⟨ma, mb, mc, md⟩ := m
    have SV := Lib.hid ((since_step HS1.out HS2.out))
    have S5 := Lib.hid (since_step SV.out hs)
    have hz5 := SV.out.size
    have HGG := Lib.hid (hg.less hz5); have HAA := Lib.hid ha; clear hg ha hm hs hV
    simp only [MemN.val]
    go_wp2
    go_ret2
    exact ⟨p, c, rfl, rfl, HGG.out.since ((World.Since.refl _ _).alloc (Nat.le_refl _) _), HAA.out, S5.out.alloc S5.out.size _⟩
  · have hc0 := HG2.out.cell (j := 0) (by have := of_decide_eq_true hd; omega)
    have hf0 := HG2.out.free 0
    have hpos : 0 < n := of_decide_eq_true hd
    have hne : ¬ n = 0 := by omega
    have HS3 : Hid (W1.Since W1.heap.size ((W1.alloc (.cells (madeCells #[.float .f32 0] n) 22)).setCell ⟨w.heap.size + 1, 0, none⟩ (.float .f32 1065353216))) := Lib.hid (HS2.out.setCell (show W1.heap.size ≤ w.heap.size + 1 by omega) _)
    have hG := Lib.hid (imp_gs (n := n) hlw ((HG2.out.set 0 (.float .f32 1065353216)).congr (f' := fun j => .float .f32 (if j = 0 then 1065353216 else 0)) fun j _ => by by_cases e : j = 0 <;> simp [e]))
    go_wp2_with (go_at_call 62; refine (HIN.out _).mono ?_; rintro e w' ⟨rfl, rfl⟩)
    have e9 : (W1.alloc (.cells (madeCells #[.float .f32 0] n) 22)).setCell ⟨w.heap.size + 1, 0, none⟩ (.float .f32 1065353216) = W1.alloc (.cells ((madeCells #[.float .f32 0] n).setIfInBounds 0 (.float .f32 1065353216)) 22) := by
      rw [← z1]; simp [go_sem]
    rw [e9] at hG HS3
    clear e9 hc0 hf0 HG2 HS2
    generalize hV : World.alloc W1 _ = V at hG HS3 ⊢
    refine (REST.out V hG.out HS3.out).mono ?_
    rintro e w5 ⟨p, c, m, rfl, rfl, hg, ha, hm, hs⟩
    obtain ⟨ma, mb, mc, md⟩ := m
    have SV := Lib.hid ((since_step HS1.out HS3.out))
    have S5 := Lib.hid (since_step SV.out hs)
    have hz5 := SV.out.size
    have HGG := Lib.hid (hg.less hz5); have HAA := Lib.hid ha; clear hg ha hm hs hV
    simp only [MemN.val]
    go_wp2
    go_ret2
    exact ⟨p, c, rfl, rfl, HGG.out.since ((World.Since.refl _ _).alloc (Nat.le_refl _) _), HAA.out, S5.out.alloc S5.out.size _⟩
theorem stepOf_any (form : Nat) (hform : form ≤ 2) : ∃ kk, isNext form kk ∧ ∀ w, Calls Try.prog 63 #[.int .i64 (form : Int)] w fun e w' => e = .returned (.tuple #[.func (.func kk) #[] #[], .bool true]) ∧ w = w' := by
  match form, hform with
  | 0, _ => exact ⟨_, .inl ⟨rfl, rfl⟩, stepOf_Dir⟩
  | 1, _ => exact ⟨_, .inr (.inl ⟨rfl, rfl⟩), stepOf_Tur⟩
  | 2, _ => exact ⟨_, .inr (.inr ⟨rfl, rfl⟩), stepOf_Can⟩
set_option maxHeartbeats 8000000 in
set_option maxRecDepth 100000 in
theorem implImp_ok (form : Nat) (hform : form ≤ 2) (f : FilN) (F : Fil) (n : Nat) (w : World) (hF : FvF f F) (hn : n ≤ 256) :
    Calls Try.prog 23 #[f.val, .int .i64 (form : Int), .int .i64 (n : Int)] w (PLB n (filY form false F noM impX) true w) := by
  obtain ⟨kk, hkk, hso⟩ := stepOf_any form hform
  have HSO := Lib.hid hso; clear hso
  have HIM := Lib.hid fun v => impulse_any n hn v
  have d1 : decide ((n : Int) < 0) = false := decide_eq_false (by omega)
  have d2 : decide ((256 : Int) < (n : Int)) = false := decide_eq_false (by omega)
  have d3 : decide (256 < n) = false := decide_eq_false (by omega)
  obtain ⟨b0, b1, b2, a1, a2⟩ := f
  have rest : ∀ (V : World) (g : Nat), Gs 22 V w.heap.size (some ⟨g, 0, none⟩) n (impL n) → w.heap.size ≤ V.heap.size → Calls Try.prog 65 #[.agg #[.float .f32 b0, .float .f32 b1, .float .f32 b2, .float .f32 a1, .float .f32 a2, .bool false], .func (.func kk) #[] #[], .agg #[.float .f32 0, .float .f32 0, .float .f32 0, .float .f32 0], .slice (some ⟨g, 0, none⟩) n n] V fun e w' => ∃ ma mb mc md ys, e = .returned (.agg #[.float .f32 ma, .float .f32 mb, .float .f32 mc, .float .f32 md]) ∧ Gs 22 w' w.heap.size (some ⟨g, 0, none⟩) n ys ∧ Are ⟨some ⟨g, 0, none⟩, n, ys⟩ (filY form false F noM impX) ∧ V.Since w.heap.size w' := fun V g hg hs => by
    have h9 := implRun_any form kk hkk false ⟨b0, b1, b2, a1, a2⟩ ⟨0, 0, 0, 0⟩ F noM (some ⟨g, 0, none⟩) n n g w.heap.size impX V hF noM_fv (fun h0 => ⟨rfl, Pr.of hg h0 fun j hj => imp_are n none j hj⟩) hn hs
    simp only [MemN.val, setV] at h9
    refine h9.mono fun e w' => ?_
    rintro ⟨⟨ma, mb, mc, md⟩, he, hm, hp, hs2, _⟩
    by_cases h0 : 0 < n
    · obtain ⟨ys, h1, h2⟩ := (hp h0).done (Pr.of hg h0 (X := impX) (Y := impX) fun j hj => imp_are n none j hj).1
      exact ⟨ma, mb, mc, md, ys, he, h1, h2, hs2⟩
    · exact ⟨ma, mb, mc, md, [], he, ⟨by simp; omega, (fun x hx => by cases hx), fun h => absurd h h0⟩, fun j hj => absurd (Nat.lt_of_le_of_lt (Nat.zero_le _) hj) h0, hs2⟩
  have REST := Lib.hid rest; clear rest
  unfold FilN.val
  go_enter Try.func23, Try.ntmps23
  go_wp2_with fail
  generalize hW : World.alloc w _ = W1
  have S1 : Hid (w.Since w.heap.size W1) := Lib.hid (by rw [← hW]; exact (World.Since.refl _ _).alloc (Nat.le_refl _) _)
  have k0 : W1.cell? ⟨w.heap.size, 0, none⟩ = some (.float .f32 b0) := by rw [← hW]; simp [go_sem]
  have k1 : W1.cell? ⟨w.heap.size, 1, none⟩ = some (.float .f32 b1) := by rw [← hW]; simp [go_sem]
  have k2 : W1.cell? ⟨w.heap.size, 2, none⟩ = some (.float .f32 b2) := by rw [← hW]; simp [go_sem]
  have k3 : W1.cell? ⟨w.heap.size, 3, none⟩ = some (.float .f32 a1) := by rw [← hW]; simp [go_sem]
  have k4 : W1.cell? ⟨w.heap.size, 4, none⟩ = some (.float .f32 a2) := by rw [← hW]; simp [go_sem]
  have z1 : W1.heap.size = w.heap.size + 1 := by rw [← hW]; simp
  clear hW
  go_at_call 63
  refine (HSO.out _).mono ?_
  rintro e w' ⟨rfl, rfl⟩
  go_wp2_with fail
  refine (HIM.out _).mono ?_
  rintro e w2 ⟨rfl, hg, hs⟩
  have c0 := (hs.cell (a := ⟨w.heap.size, 0, none⟩) (show w.heap.size < W1.heap.size by omega)).trans k0
  have c1 := (hs.cell (a := ⟨w.heap.size, 1, none⟩) (show w.heap.size < W1.heap.size by omega)).trans k1
  have c2 := (hs.cell (a := ⟨w.heap.size, 2, none⟩) (show w.heap.size < W1.heap.size by omega)).trans k2
  have c3 := (hs.cell (a := ⟨w.heap.size, 3, none⟩) (show w.heap.size < W1.heap.size by omega)).trans k3
  have c4 := (hs.cell (a := ⟨w.heap.size, 4, none⟩) (show w.heap.size < W1.heap.size by omega)).trans k4
  have S2 := Lib.hid (since_step S1.out hs)
  have G2 := Lib.hid (hg.less S1.out.size)
  clear hs hg k0 k1 k2 k3 k4 z1
  generalize W1.heap.size = g at *
  go_wp2_with fail
  refine (REST.out w2 g G2.out S2.out.size).mono ?_
  rintro e w3 ⟨ma, mb, mc, md, ys, rfl, hg, ha, hs⟩
  have G3 := Lib.hid hg; have A3 := Lib.hid ha; have S3 := Lib.hid (S2.out.trans hs); clear hg ha hs
  go_wp2
  go_ret2
  exact ⟨⟨some ⟨g, 0, none⟩, n, ys⟩, n, rfl, rfl, G3.out, A3.out, S3.out⟩
end Go.Proofs.Ytebocaicebolaaa

/- Filters: one filter over samples, the model's function, and what fails. -/
set_option linter.unusedVariables false
set_option linter.unusedSimpArgs false
namespace Go.Proofs.Ytebocaicebolaaa
open Fl Go.RowKit
def PLMB (n0 : Nat) (f0 : Nat → O) (M : Mem) (b : Bool) (w : World) (e : Ending) (w' : World) : Prop :=
  ∃ (p : Ls) (c : Nat) (m : MemN), e = .returned (.tuple #[.slice p.A p.n c, m.val, .bool b]) ∧ p.n = n0 ∧ Gs 22 w' w.heap.size p.A p.n p.xs ∧ Are p f0 ∧ FvM m M ∧ w.Since w.heap.size w'
theorem PLMB.none_ {w w' : World} (s : w.Since w.heap.size w') (f0 : Nat → O) : PLMB 0 f0 noM false w (.returned (.tuple #[.slice none 0 0, .agg #[.float .f32 0, .float .f32 0, .float .f32 0, .float .f32 0], .bool false])) w' :=
  ⟨⟨none, 0, []⟩, 0, ⟨0, 0, 0, 0⟩, rfl, rfl, Gs.nil_, (fun k hk => by simp at hk), noM_fv, s⟩
theorem few_fil (A : Option Addr) (n c : Nat) (b : Bool) (w : World) (h : decide ((n : Int) ≤ 256) = b) : Calls Try.prog 59 #[.slice A n c] w fun e w' => e = .returned (.bool b) ∧ w = w' := by
  subst h
  go_enter Try.func59, Try.ntmps59
  go_wp2
  go_ret
  exact ⟨ret_bool (by simp), rfl⟩
set_option maxHeartbeats 8000000 in
set_option maxRecDepth 100000 in
theorem specRF_ok (form : Nat) (hform : form ≤ 2) (fu : Bool) (f : FilN) (m : MemN) (F : Fil) (M : Mem) (A : Option Addr) (n c : Nat) (xs : List Nat) (w : World) (hF : FvF f F) (hM : FvM m M) (hA : Fs w w.heap.size A n xs) (hn : n ≤ 256) :
    Calls Try.prog 13 #[f.val, .int .i64 (form : Int), .bool fu, m.val, .slice A n c] w (PLMB n (filY form fu F M (fun k => ab .f32 (wd xs k))) (filM form fu F M (fun k => ab .f32 (wd xs k)) n) true w) := by
  have h1 : inB (form : Int) 0 2 = true := by simp only [inB, Bool.and_eq_true, decide_eq_true_eq]; omega
  have h2 : decide ((n : Int) ≤ 256) = true := decide_eq_true (by omega)
  have HR := Lib.hid fun (V : World) (hs : w.Since w.heap.size V) (hg : FilAt V w.heap.size f) => specRun_any form hform fu w.heap.size f m F M A n c xs V hg hF hM ((hA.since hs).more hs.size) hn
  obtain ⟨b0, b1, b2, a1, a2⟩ := f
  obtain ⟨ma, mb, mc, md⟩ := m
  unfold MemN.val at *
  unfold FilN.val
  clear hA
  go_enter Try.func13, Try.ntmps13
  go_wp2_with fail
  generalize hW1 : World.alloc w _ = W1
  generalize hW2 : World.alloc W1 _ = W2
  generalize hW3 : World.alloc W2 _ = W3
  have z1 : W1.heap.size = w.heap.size + 1 := by rw [← hW1]; simp
  have z2 : W2.heap.size = w.heap.size + 1 + 1 := by rw [← hW2]; simp [z1]
  have z3 : W3.heap.size = w.heap.size + 1 + 1 + 1 := by rw [← hW3]; simp [z2]
  have FA : FilAt W1 w.heap.size ⟨b0, b1, b2, a1, a2⟩ := by rw [← hW1]; exact ⟨by simp, by simp [go_sem], by simp [go_sem], by simp [go_sem], by simp [go_sem], by simp [go_sem]⟩
  have b1_ : MemB 28 W2 (w.heap.size + 1) ⟨ma, mb, mc, md⟩ := by rw [← hW2, ← z1]; exact MemB.new _ _ _ _ _ _
  have b2_ : MemB 28 W3 (w.heap.size + 1 + 1) ⟨0, 0, 0, 0⟩ := by rw [← hW3, ← z2]; exact MemB.new _ _ _ _ _ _
  have s1 : w.Since w.heap.size W1 := by rw [← hW1]; exact (World.Since.refl _ _).alloc (Nat.le_refl _) _
  have s2 : W1.Since W1.heap.size W2 := by rw [← hW2]; exact (World.Since.refl _ _).alloc (Nat.le_refl _) _
  have s3 : W2.Since W2.heap.size W3 := by rw [← hW3]; exact (World.Since.refl _ _).alloc (Nat.le_refl _) _
  have F3 := Lib.hid ((FA.since (since_mono s2 (by omega))).since (since_mono s3 (by omega)))
  have B1 := Lib.hid (b1_.since s3 (by omega))
  have B2 := Lib.hid b2_
  have S3 : Hid (w.Since w.heap.size W3) := Lib.hid ((s1.trans (since_mono s2 (by omega))).trans (since_mono s3 (by omega)))
  clear hW1 hW2 hW3 s1 s2 s3 b1_ b2_ FA z1 z2
  have m0 := B1.out.c0; have m1 := B1.out.c1; have m2 := B1.out.c2; have m3 := B1.out.c3
  go_wp2_with (first | (go_at_call 58; refine (l02Form_any _ _ _ h1).mono ?_; rintro e w' ⟨rfl, rfl⟩) | (go_at_call 59; refine (few_fil _ _ _ _ _ h2).mono ?_; rintro e w' ⟨rfl, rfl⟩))
  refine (HR.out W3 S3.out F3.out).mono ?_
  rintro e w5 ⟨p, cp, ⟨qa, qb, qc, qd⟩, rfl, rfl, hg, ha, hm, hs⟩
  have hg9 := hg; rw [z3] at hg9; have HG := Lib.hid hg9; clear hg9; have HA := Lib.hid ha; have HM := Lib.hid hm
  have E2 := Lib.hid (B2.out.since hs (by omega))
  have S5 := Lib.hid (since_step S3.out hs)
  have hz5 := hs.size
  clear hg ha hm hs m0 m1 m2 m3
  simp only [MemN.val_mk]
  go_wp2_with fail
  generalize hV : World.alloc w5 _ = V
  have N1 : Hid (MemB 28 V w5.heap.size ⟨qa, qb, qc, qd⟩) := Lib.hid (by rw [← hV]; exact MemB.new _ _ _ _ _ _)
  have E3 : Hid (MemB 28 V (w.heap.size + 1 + 1) ⟨0, 0, 0, 0⟩) := Lib.hid (E2.out.since (B := w5.heap.size) (by rw [← hV]; exact (World.Since.refl _ _).alloc (Nat.le_refl _) _) E2.out.lt)
  have GV : Hid (Gs 22 V (w.heap.size + 1 + 1 + 1) p.A p.n p.xs) := Lib.hid (HG.out.since (by rw [← hV]; exact (World.Since.refl _ _).alloc (Nat.le_refl _) _))
  have SV : Hid (w.Since w.heap.size V) := Lib.hid (by rw [← hV]; exact S5.out.alloc S5.out.size _)
  clear hV
  have e0 := E3.out.c0; have e1 := E3.out.c1; have e2 := E3.out.c2; have e3 := E3.out.c3
  have l0 := E3.out.free 0; have l1 := E3.out.free 1; have l2 := E3.out.free 2; have l3 := E3.out.free 3
  have p0 := N1.out.c0; have p1 := N1.out.c1; have p2 := N1.out.c2; have p3 := N1.out.c3
  have OO : Hid (On (w.heap.size + 1 + 1) V (((((V.setCell ⟨w.heap.size + 1 + 1, 0, none⟩ (.float .f32 qa)).setCell ⟨w.heap.size + 1 + 1, 1, none⟩ (.float .f32 qb)).setCell ⟨w.heap.size + 1 + 1, 2, none⟩ (.float .f32 qc)).setCell ⟨w.heap.size + 1 + 1, 3, none⟩ (.float .f32 qd)))) := Lib.hid (((((On.refl _ _).set _ _).set _ _).set _ _).set _ _)
  have NB := Lib.hid (E3.out.set qa qb qc qd)
  go_wp2_with fail
  go_region
  all_goals
    generalize hV2 : World.setCell _ _ _ = V2 at *
    have g0 := NB.out.c0; have g1 := NB.out.c1; have g2 := NB.out.c2; have g3 := NB.out.c3
    go_wp2
    exact bodyPost_ret (v := .tuple #[.slice p.A p.n cp, .agg #[.float .f32 qa, .float .f32 qb, .float .f32 qc, .float .f32 qd], .bool true]) (by simp [results, Try.results13, go_sem, g0, g1, g2, g3]) rfl
      ⟨p, cp, ⟨qa, qb, qc, qd⟩, rfl, rfl, (gs_low GV.out OO.out (by omega)).less (by omega), HA.out, HM.out, by first | exact SV.out.trans (since_mono OO.out.1 (by omega)) | exact since_drewN (SV.out.trans (since_mono OO.out.1 (by omega))) _⟩
theorem specRF_no (form : Int) (fu : Bool) (f : FilN) (m : MemN) (A : Option Addr) (n c : Nat) (w : World) (h : ¬ (inB form 0 2 = true ∧ n ≤ 256)) (G : Nat → O) :
    Calls Try.prog 13 #[f.val, .int .i64 form, .bool fu, m.val, .slice A n c] w (PLMB 0 G noM false w) := by
  obtain ⟨b0, b1, b2, a1, a2⟩ := f
  obtain ⟨ma, mb, mc, md⟩ := m
  unfold FilN.val MemN.val
  have fin : ∀ (V : World) (k : Nat), MemB 28 V k ⟨0, 0, 0, 0⟩ → V.cell? ⟨k, 0, none⟩ = some (.float .f32 0) ∧ V.cell? ⟨k, 1, none⟩ = some (.float .f32 0) ∧ V.cell? ⟨k, 2, none⟩ = some (.float .f32 0) ∧ V.cell? ⟨k, 3, none⟩ = some (.float .f32 0) := fun V k h => ⟨h.c0, h.c1, h.c2, h.c3⟩
  cases h1 : inB form 0 2
  · go_enter Try.func13, Try.ntmps13
    go_wp2_with (go_at_call 58; refine (l02Form_any _ _ _ h1).mono ?_; rintro e w' ⟨rfl, rfl⟩)
    exact bodyPost_ret (v := .tuple #[.slice none 0 0, .agg #[.float .f32 0, .float .f32 0, .float .f32 0, .float .f32 0], .bool false]) (by simp [results, Try.results13, go_sem]) rfl (PLMB.none_ (by (repeat (first | (with_reducible refine Fl.sinDrew ?_) | (with_reducible refine World.Since.drew ?_) | (with_reducible refine Fl.sinSet ?_ ?_; rotate_left) | (with_reducible refine Fl.sinAlloc ?_ ?_; rotate_left) | with_reducible exact World.Since.refl _ _ | with_reducible assumption | (with_reducible refine Fl.sinStep (by with_reducible assumption) ?_))); all_goals (first | omega | (simp; done) | (simp; omega) | (simp [go_sem]; done) | (simp [go_sem]; omega))) _)
  · have h2 : decide ((n : Int) ≤ 256) = false := decide_eq_false fun h3 => h ⟨h1, by omega⟩
    clear h
    go_enter Try.func13, Try.ntmps13
    go_wp2_with (first | (go_at_call 58; refine (l02Form_any _ _ _ h1).mono ?_; rintro e w' ⟨rfl, rfl⟩) | (go_at_call 59; refine (few_fil _ _ _ _ _ h2).mono ?_; rintro e w' ⟨rfl, rfl⟩))
    exact bodyPost_ret (v := .tuple #[.slice none 0 0, .agg #[.float .f32 0, .float .f32 0, .float .f32 0, .float .f32 0], .bool false]) (by simp [results, Try.results13, go_sem]) rfl (PLMB.none_ (by (repeat (first | (with_reducible refine Fl.sinDrew ?_) | (with_reducible refine World.Since.drew ?_) | (with_reducible refine Fl.sinSet ?_ ?_; rotate_left) | (with_reducible refine Fl.sinAlloc ?_ ?_; rotate_left) | with_reducible exact World.Since.refl _ _ | with_reducible assumption | (with_reducible refine Fl.sinStep (by with_reducible assumption) ?_))); all_goals (first | omega | (simp; done) | (simp; omega) | (simp [go_sem]; done) | (simp [go_sem]; omega))) _)
end Go.Proofs.Ytebocaicebolaaa

/- Filters: copies of samples; one filter over samples, the program's. -/
set_option linter.unusedVariables false
set_option linter.unusedSimpArgs false
namespace Go.Proofs.Ytebocaicebolaaa
open Fl Go.RowKit
set_option maxHeartbeats 4000000 in
set_option maxRecDepth 100000 in
theorem clone_any (A : Option Addr) (n c : Nat) (xs : List Nat) (w : World) (hA : Fs w w.heap.size A n xs) (hn : n ≤ 256) :
    Calls Try.prog 68 #[.slice A n c] w fun e w' => ∃ (A' : Option Addr) (c' : Nat) (ys : List Nat), e = .returned (.slice A' n c') ∧ ((A' = none → n = 0 ∧ c' = 0) ∧ ∀ a, A' = some a → ∃ g, a = ⟨g, 0, none⟩) ∧ Gs 22 w' w.heap.size A' n ys ∧ (∀ j, j < n → ab .f32 (wd ys j) = ab .f32 (wd xs j)) ∧ w.Since w.heap.size w' := by
  have hq := fun W => Lib.run_eql_slice_nil W 27 22 A n c 0 0 Try.underlying27
  have HA := Lib.hid hA; clear hA
  cases A with
  | none =>
    obtain rfl : n = 0 := by
      rcases Nat.eq_zero_or_pos n with h | h
      · exact h
      · obtain ⟨g, off, e, _⟩ := HA.out.2.2 h; cases e
    go_enter Try.func68, Try.ntmps68
    go_wp2
    go_ret
    exact ⟨none, 0, [], rfl, ⟨fun _ => by simp, fun a h => by cases h⟩, Gs.nil_, fun j hj => by omega, World.Since.refl _ _⟩
  | some ad =>
    go_enter Try.func68, Try.ntmps68
    go_wp2_with (at_builtin; refine wpList_appN rfl (.tmp 5) (.tmp 6) rfl w.heap.size _ 0 (fun j => ab .f32 (wd xs j)) rfl _ _ _ xs _ rfl (by simp) (Lib.hid (HA.out.since ((World.Since.refl _ _).alloc (Nat.le_refl _) _))) (fun j hj => by rw [Nat.zero_add]) (by omega) (by simp) (Rw.start w _ (Nat.le_refl _) _) ?_; intro v1 wa hRa hSa; have Ha := Lib.hid (((World.Since.refl w.heap.size w).alloc (Nat.le_refl _) _).trans hSa.out); clear hSa; obtain ⟨pA, cq, px, rfl, hcq, hno, hso, hgp, hap⟩ := hRa.out.end_; have HNS := Lib.hid hso; have HNO := Lib.hid hno; have GP := Lib.hid hgp; have AP := Lib.hid hap; clear hgp hap hRa hno hso)
    go_ret
    exact ⟨pA, cq, px, rfl, ⟨fun h => by have := HNO.out h; omega, fun a h => by obtain ⟨g, e, _⟩ := HNS.out a h; exact ⟨g, e⟩⟩, by first | exact GP.out | (have := GP.out; rwa [Nat.zero_add] at this), fun j hj => AP.out j (by first | exact hj | (show j < 0 + n; omega)), Ha.out⟩
theorem Try.infoMem : (Try.prog.info? 28).map (fun i => (i.zero, i.size, i.bytes)) = some (some (.agg #[.float .f32 0, .float .f32 0, .float .f32 0, .float .f32 0]), 4, 16) := by kernel_rfl
theorem make_mem (W : World) : (Instr.makeSlice 51 (.int .i64 1) (.int .i64 1)).run Try.prog W = .ok (.slice (some ⟨W.heap.size, 0, none⟩) 1 1) (W.alloc (.cells #[.float .f32 0, .float .f32 0, .float .f32 0, .float .f32 0] 28)) := by
  obtain ⟨i0, hi, hz0, hz1, hz2⟩ := info_parts Try.infoMem
  have h := run_make (P := Try.prog) W 51 28 i0 _ Try.underlying51 hi hz0 .i64 .i64 1 1 (by omega) (by omega) (by rw [hz2]; decide) (by omega)
  rw [hz1] at h
  have e : madeCells (Value.agg #[.float .f32 0, .float .f32 0, .float .f32 0, .float .f32 0]).cells (Int.toNat 1 * 4) = #[.float .f32 0, .float .f32 0, .float .f32 0, .float .f32 0] := by kernel_rfl
  rw [e] at h
  exact h
set_option maxHeartbeats 8000000 in
set_option maxRecDepth 100000 in
theorem implRFs_one (form : Nat) (hform : form ≤ 2) (fu : Bool) (f : FilN) (m : MemN) (F : Fil) (M : Mem) (A : Option Addr) (n c b1 b2 : Nat) (xs : List Nat) (w : World) (hF : FvF f F) (hM : FvM m M) (hA : Fs w w.heap.size A n xs) (hn : n ≤ 256) (hb1 : FilAt w b1 f) (hb2 : MemB 28 w b2 m) :
    Calls Try.prog 33 #[.slice (some ⟨b1, 0, none⟩) 1 1, .int .i64 (form : Int), .bool fu, .slice (some ⟨b2, 0, none⟩) 1 1, .slice A n c] w fun e w' => ∃ (p : Ls) (c' mg : Nat) (m' : MemN), e = .returned (.tuple #[.slice p.A p.n c', .slice (some ⟨mg, 0, none⟩) 1 1, .bool true]) ∧ p.n = n ∧ Gs 22 w' w.heap.size p.A p.n p.xs ∧ Are p (filY form fu F M (fun k => ab .f32 (wd xs k))) ∧ MemB 28 w' mg m' ∧ FvM m' (filM form fu F M (fun k => ab .f32 (wd xs k)) n) ∧ w.Since w.heap.size w' ∧ (p.A = none → n = 0 ∧ c' = 0) ∧ (∀ a, p.A = some a → ∃ g, a = ⟨g, 0, none⟩) := by
  obtain ⟨kk, hkk, hso⟩ := stepOf_any form hform
  have HSO := Lib.hid hso; clear hso
  have hfew : decide ((n : Int) ≤ 256) = true := decide_eq_true (by omega)
  have HSM : Hid (∀ v, Calls Try.prog 67 #[.slice A n c] v fun e w' => e = .returned (.bool true) ∧ v = w') := Lib.hid fun v => implSamples_b A n c true v hfew
  have HA := Lib.hid hA
  have HB1 := Lib.hid hb1; have HB2 := Lib.hid hb2
  clear hA hb1 hb2 hfew
  go_enter Try.func33, Try.ntmps33
  go_wp2_with (first | (go_at_call 63; refine (HSO.out _).mono ?_; rintro e w' ⟨rfl, rfl⟩) | (go_at_call 67; refine (HSM.out _).mono ?_; rintro e w' ⟨rfl, rfl⟩))
  go_at_call 68
  refine (clone_any A n c xs w HA.out hn).mono ?_
  rintro e w1 ⟨A', c', ys, rfl, hsome, hg, hy, hs⟩
  have G1 := Lib.hid hg; have Y1 := Lib.hid hy; have S1 := Lib.hid hs; have NS := Lib.hid hsome
  clear hg hy hs hsome
  have hmk := make_mem w1
  have z1 := S1.out.size
  go_wp2_with fail
  generalize hW2 : World.alloc w1 _ = w2
  have z2 : w2.heap.size = w1.heap.size + 1 := by rw [← hW2]; simp
  have hs2 : w1.Since w1.heap.size w2 := by rw [← hW2]; exact (World.Since.refl _ _).alloc (Nat.le_refl _) _
  have S2 := Lib.hid (since_step S1.out hs2)
  have N2 : Hid (MemB 28 w2 w1.heap.size ⟨0, 0, 0, 0⟩) := Lib.hid (by rw [← hW2]; exact MemB.new _ _ _ _ _ _)
  have G2 := Lib.hid (G1.out.since hs2)
  have F2 := Lib.hid (HB1.out.since (since_mono S2.out (show b1 + 1 ≤ w.heap.size by have := HB1.out.lt; omega)))
  have M2 := Lib.hid (HB2.out.since S2.out HB2.out.lt)
  clear hW2 hs2 hmk
  have k0 := F2.out.b0; have k1 := F2.out.b1; have k2 := F2.out.b2; have k3 := F2.out.a1; have k4 := F2.out.a2
  refine wp_loop_rounds 2 ?_
  rw [rounds_succ]
  go_wp2_with fail
  generalize hW3 : World.alloc w2 _ = w3
  have z3 : w3.heap.size = w2.heap.size + 1 := by rw [← hW3]; simp
  have hs3 : w2.Since w2.heap.size w3 := by rw [← hW3]; exact (World.Since.refl _ _).alloc (Nat.le_refl _) _
  have FF : Hid (FilAt w3 w2.heap.size f) := Lib.hid (by rw [← hW3]; exact ⟨by simp, by simp [go_sem], by simp [go_sem], by simp [go_sem], by simp [go_sem], by simp [go_sem]⟩)
  have N3 := Lib.hid (N2.out.since hs3 N2.out.lt)
  have M3 := Lib.hid (M2.out.since hs3 M2.out.lt)
  have G3 := Lib.hid (G2.out.since hs3)
  have S3 := Lib.hid (since_step S2.out hs3)
  clear hW3 hs3 k0 k1 k2 k3 k4
  have FF' := FF.out
  rw [z2] at FF'
  have k0 := FF'.b0; have k1 := FF'.b1; have k2 := FF'.b2; have k3 := FF'.a1; have k4 := FF'.a2
  have m0 := M3.out.c0; have m1 := M3.out.c1; have m2 := M3.out.c2; have m3 := M3.out.c3
  have h18 : w1.heap.size + 1 < w3.heap.size := by omega
  have hmg : w1.heap.size < w3.heap.size := by omega
  have hb2 : b2 < w3.heap.size := M3.out.lt
  have hzw : w.heap.size ≤ w3.heap.size := S3.out.size
  -- the run in place
  have run : ∀ V : World, w3.Since w3.heap.size V → Calls Try.prog 65 #[.agg #[.float .f32 f.b0, .float .f32 f.b1, .float .f32 f.b2, .float .f32 f.a1, .float .f32 f.a2, .bool fu], .func (.func kk) #[] #[], .agg #[.float .f32 m.a, .float .f32 m.b, .float .f32 m.c, .float .f32 m.d], .slice A' n c'] V fun e w' => ∃ (ma mb mc md : Nat) (zs : List Nat), e = .returned (.agg #[.float .f32 ma, .float .f32 mb, .float .f32 mc, .float .f32 md]) ∧ FvM ⟨ma, mb, mc, md⟩ (filM form fu F M (fun k => ab .f32 (wd xs k)) n) ∧ Gs 22 w' w.heap.size A' n zs ∧ Are ⟨A', n, zs⟩ (filY form fu F M (fun k => ab .f32 (wd xs k))) ∧ w.Since w.heap.size w' ∧ MemB 28 w' w1.heap.size ⟨0, 0, 0, 0⟩ := fun V hs => by
    have hV := since_step S3.out hs
    have hgV := G3.out.since hs
    by_cases h0 : 0 < n
    · obtain ⟨g, cs, e9, hlg, hbg, _⟩ := G1.out.2.2 h0
      have hg1 : g < w1.heap.size := (Array.getElem?_eq_some_iff.1 hbg).1
      subst e9
      have h9 := implRun_any form kk hkk fu f m F M (some ⟨g, 0, none⟩) n c' g w.heap.size (fun k => ab .f32 (wd xs k)) V hF hM (fun h0 => ⟨rfl, Pr.of hgV h0 fun j hj => Y1.out j hj⟩) hn hV.size
      simp only [MemN.val, setV] at h9
      refine h9.mono fun e w' => ?_
      rintro ⟨⟨ma, mb, mc, md⟩, he, hm, hp, hs2, hfr⟩
      obtain ⟨zs, h1, h2⟩ := (hp h0).done hlg
      exact ⟨ma, mb, mc, md, zs, he, hm, h1, h2, hV.trans hs2, (N3.out.since hs N3.out.lt).of (hfr _ (by have := hs.size; omega) (by omega))⟩
    · have h9 := implRun_any form kk hkk fu f m F M A' n c' (w1.heap.size + 1) w.heap.size (fun k => ab .f32 (wd xs k)) V hF hM (fun h => absurd h h0) hn hV.size
      simp only [MemN.val, setV] at h9
      refine h9.mono fun e w' => ?_
      rintro ⟨⟨ma, mb, mc, md⟩, he, hm, hp, hs2, hfr⟩
      exact ⟨ma, mb, mc, md, [], he, hm, ⟨by simp; omega, (fun x hx => by cases hx), fun h => absurd h h0⟩, (fun j hj => absurd (Nat.lt_of_le_of_lt (Nat.zero_le _) hj) h0), hV.trans hs2, (N3.out.since hs N3.out.lt).of (hfr _ (by have := hs.size; omega) (by omega))⟩
  have RUN := Lib.hid run; clear run FF'
  have HCO := Lib.hid (cellsOf_any m)
  have MEMO := Lib.hid memory_any
  unfold MemN.val at HCO MEMO
  go_region_with (first
    | (go_at_call 73; refine (HCO.out _).mono ?_; rintro e w4 ⟨rfl, hs⟩; (try replace hs := sinUD hs); obtain ⟨hc4, hf4⟩ := Fl.sinCell hs; have T4 := Lib.hid hs; clear hs)
    | (go_at_call 65; refine (RUN.out _ T4.out).mono ?_; rintro e w5 ⟨ma, mb, mc, md, zs, rfl, hm, hg, ha, hs, hmb⟩; have M5 := Lib.hid hm; have G5 := Lib.hid hg; have A5 := Lib.hid ha; have T5 := Lib.hid hs; have N5 := Lib.hid hmb; clear hm hg ha hs hmb)
    | (go_at_call 75; refine (MEMO.out ⟨ma, mb, mc, md⟩ _).mono ?_; rintro e w6 ⟨rfl, hs⟩; (try replace hs := sinUD hs); have N6 := Lib.hid (N5.out.since hs N5.out.lt); have G6 := Lib.hid (G5.out.since hs); have T6 := Lib.hid (since_step T5.out hs); clear hs; have e0 := N6.out.c0; have e1 := N6.out.c1; have e2 := N6.out.c2; have e3 := N6.out.c3; have l0 := N6.out.free 0; have l1 := N6.out.free 1; have l2 := N6.out.free 2; have l3 := N6.out.free 3))
  all_goals
    have OO : Hid (On w1.heap.size w6 (((((w6.setCell ⟨w1.heap.size, 0, none⟩ (.float .f32 ma)).setCell ⟨w1.heap.size, 1, none⟩ (.float .f32 mb)).setCell ⟨w1.heap.size, 2, none⟩ (.float .f32 mc)).setCell ⟨w1.heap.size, 3, none⟩ (.float .f32 md)))) := Lib.hid (((((On.refl _ _).set _ _).set _ _).set _ _).set _ _)
    have NB := Lib.hid (N6.out.set ma mb mc md)
    have GV : Hid (Gs 22 (((((w6.setCell ⟨w1.heap.size, 0, none⟩ (.float .f32 ma)).setCell ⟨w1.heap.size, 1, none⟩ (.float .f32 mb)).setCell ⟨w1.heap.size, 2, none⟩ (.float .f32 mc)).setCell ⟨w1.heap.size, 3, none⟩ (.float .f32 md))) w.heap.size A' n zs) := Lib.hid (by
      by_cases h0 : 0 < n
      · obtain ⟨g, cs, e9, hlg, hbg, _⟩ := G1.out.2.2 h0
        have hg1 : g < w1.heap.size := (Array.getElem?_eq_some_iff.1 hbg).1
        exact Gs.on G6.out OO.out (fun s t h => by rw [e9] at h; injection h with h; injection h with h _ _; omega)
      · exact ⟨G6.out.1, G6.out.2.1, fun h => absurd h h0⟩)
    have SV := Lib.hid (T6.out.trans (since_mono OO.out.1 z1))
    generalize hV : World.setCell _ _ _ = V at *
    clear hV k0 k1 k2 k3 k4 m0 m1 m2 m3 e0 e1 e2 e3 l0 l1 l2 l3
    go_wp2_with fail
    rw [rounds_succ]
    go_wp2_with fail
    go_ret3
    exact ⟨⟨A', n, zs⟩, c', w1.heap.size, ⟨ma, mb, mc, md⟩, rfl, rfl, GV.out, A5.out, NB.out, M5.out, SV.out, NS.out.1, NS.out.2⟩
end Go.Proofs.Ytebocaicebolaaa

/- Filters: RunFilter, the program's; what fails. -/
set_option linter.unusedVariables false
set_option linter.unusedSimpArgs false
namespace Go.Proofs.Ytebocaicebolaaa
open Fl Go.RowKit
theorem implRFs_no (form : Int) (fu : Bool) (A : Option Addr) (n c b1 b2 : Nat) (w : World) (h : ¬ (inB form 0 2 = true ∧ n ≤ 256)) :
    Calls Try.prog 33 #[.slice (some ⟨b1, 0, none⟩) 1 1, .int .i64 form, .bool fu, .slice (some ⟨b2, 0, none⟩) 1 1, .slice A n c] w fun e w' => e = .returned (.tuple #[.slice none 0 0, .slice none 0 0, .bool false]) ∧ w.Since w.heap.size w' := by
  cases h1 : inB form 0 2
  · go_enter Try.func33, Try.ntmps33
    go_wp2_with (go_at_call 63; refine (stepOf_out _ _ h1).mono ?_; rintro e w' ⟨rfl, rfl⟩)
    go_ret3
    exact ⟨rfl, by (repeat (first | (with_reducible refine Fl.sinDrew ?_) | (with_reducible refine World.Since.drew ?_) | (with_reducible refine Fl.sinSet ?_ ?_; rotate_left) | (with_reducible refine Fl.sinAlloc ?_ ?_; rotate_left) | with_reducible exact World.Since.refl _ _ | with_reducible assumption | (with_reducible refine Fl.sinStep (by with_reducible assumption) ?_))); all_goals (first | omega | (simp; done) | (simp; omega) | (simp [go_sem]; done) | (simp [go_sem]; omega))⟩
  · have h2 : decide ((n : Int) ≤ 256) = false := decide_eq_false fun h3 => h ⟨h1, by omega⟩
    have HSM : Hid (∀ v, Calls Try.prog 67 #[.slice A n c] v fun e w' => e = .returned (.bool false) ∧ v = w') := Lib.hid fun v => implSamples_b A n c false v h2
    clear h h2
    simp only [inB, Bool.and_eq_true, decide_eq_true_eq] at h1
    obtain ⟨form, rfl⟩ := Int.eq_ofNat_of_zero_le h1.1
    obtain ⟨kk, _, hso⟩ := stepOf_any form (by omega)
    have HSO := Lib.hid hso; clear hso
    go_enter Try.func33, Try.ntmps33
    go_wp2_with (first | (go_at_call 63; refine (HSO.out _).mono ?_; rintro e w' ⟨rfl, rfl⟩) | (go_at_call 67; refine (HSM.out _).mono ?_; rintro e w' ⟨rfl, rfl⟩))
    go_ret3
    exact ⟨rfl, by (repeat (first | (with_reducible refine Fl.sinDrew ?_) | (with_reducible refine World.Since.drew ?_) | (with_reducible refine Fl.sinSet ?_ ?_; rotate_left) | (with_reducible refine Fl.sinAlloc ?_ ?_; rotate_left) | with_reducible exact World.Since.refl _ _ | with_reducible assumption | (with_reducible refine Fl.sinStep (by with_reducible assumption) ?_))); all_goals (first | omega | (simp; done) | (simp; omega) | (simp [go_sem]; done) | (simp [go_sem]; omega))⟩
/-- a list in a block of its own, or none, and a memory -/
def PLMBo (n0 : Nat) (f0 : Nat → O) (M : Mem) (b : Bool) (w : World) (e : Ending) (w' : World) : Prop :=
  ∃ (p : Ls) (c : Nat) (m : MemN), e = .returned (.tuple #[.slice p.A p.n c, m.val, .bool b]) ∧ p.n = n0 ∧ Gs 22 w' w.heap.size p.A p.n p.xs ∧ Are p f0 ∧ FvM m M ∧ w.Since w.heap.size w' ∧ (p.A = none → n0 = 0 ∧ c = 0) ∧ (∀ a, p.A = some a → ∃ g, a = ⟨g, 0, none⟩)
set_option maxHeartbeats 8000000 in
set_option maxRecDepth 100000 in
theorem implRF_own (form : Nat) (hform : form ≤ 2) (fu : Bool) (f : FilN) (m : MemN) (F : Fil) (M : Mem) (A : Option Addr) (n c : Nat) (xs : List Nat) (w : World) (hF : FvF f F) (hM : FvM m M) (hA : Fs w w.heap.size A n xs) (hn : n ≤ 256) :
    Calls Try.prog 17 #[f.val, .int .i64 (form : Int), .bool fu, m.val, .slice A n c] w (PLMBo n (filY form fu F M (fun k => ab .f32 (wd xs k))) (filM form fu F M (fun k => ab .f32 (wd xs k)) n) true w) := by
  have HR := Lib.hid fun (V : World) (b1 b2 : Nat) (hs : w.Since w.heap.size V) (hg : FilAt V b1 f) (hm : MemB 28 V b2 m) => implRFs_one form hform fu f m F M A n c b1 b2 xs V hF hM ((hA.since hs).more hs.size) hn hg hm
  obtain ⟨b0, b1, b2, a1, a2⟩ := f
  obtain ⟨ma, mb, mc, md⟩ := m
  unfold MemN.val at *
  unfold FilN.val
  clear hA
  go_enter Try.func17, Try.ntmps17
  go_wp2_with fail
  generalize hW1 : World.alloc w _ = W1
  generalize hW2 : World.alloc W1 _ = W2
  generalize hW3 : World.alloc W2 _ = W3
  generalize hW4 : World.alloc W3 _ = W4
  generalize hW5 : World.alloc W4 _ = W5
  have z1 : W1.heap.size = w.heap.size + 1 := by rw [← hW1]; simp
  have z2 : W2.heap.size = w.heap.size + 1 + 1 := by rw [← hW2]; simp [z1]
  have z3 : W3.heap.size = w.heap.size + 1 + 1 + 1 := by rw [← hW3]; simp [z2]
  have z4 : W4.heap.size = w.heap.size + 1 + 1 + 1 + 1 := by rw [← hW4]; simp [z3]
  have s1 : w.Since w.heap.size W1 := by rw [← hW1]; exact (World.Since.refl _ _).alloc (Nat.le_refl _) _
  have s2 : W1.Since W1.heap.size W2 := by rw [← hW2]; exact (World.Since.refl _ _).alloc (Nat.le_refl _) _
  have s3 : W2.Since W2.heap.size W3 := by rw [← hW3]; exact (World.Since.refl _ _).alloc (Nat.le_refl _) _
  have s4 : W3.Since W3.heap.size W4 := by rw [← hW4]; exact (World.Since.refl _ _).alloc (Nat.le_refl _) _
  have s5 : W4.Since W4.heap.size W5 := by rw [← hW5]; exact (World.Since.refl _ _).alloc (Nat.le_refl _) _
  have z5 : W5.heap.size = w.heap.size + 1 + 1 + 1 + 1 + 1 := by rw [← hW5]; simp [z4]
  have S5 : Hid (w.Since w.heap.size W5) := Lib.hid (((((s1.trans (since_mono s2 (by omega))).trans (since_mono s3 (by omega))).trans (since_mono s4 (by omega))).trans (since_mono s5 (by omega))))
  have FA : FilAt W4 (w.heap.size + 1 + 1 + 1) ⟨b0, b1, b2, a1, a2⟩ := by rw [← hW4, ← z3]; exact ⟨by simp, by simp [go_sem], by simp [go_sem], by simp [go_sem], by simp [go_sem], by simp [go_sem]⟩
  have F5 := Lib.hid (FA.since (since_mono s5 (by omega)))
  have M5 : Hid (MemB 28 W5 (w.heap.size + 1 + 1 + 1 + 1) ⟨ma, mb, mc, md⟩) := Lib.hid (by rw [← hW5, ← z4]; exact MemB.new _ _ _ _ _ _)
  have B3 : MemB 28 W3 (w.heap.size + 1 + 1) ⟨0, 0, 0, 0⟩ := by rw [← hW3, ← z2]; exact MemB.new _ _ _ _ _ _
  have B5 := Lib.hid ((B3.since s4 (by omega)).since s5 (by omega))
  clear hW1 hW2 hW3 hW4 hW5 s1 s2 s3 s4 s5 FA B3 z1 z2 z3 z4
  refine (HR.out W5 _ _ S5.out F5.out M5.out).mono ?_
  rintro e w6 ⟨p, c', mg, ⟨qa, qb, qc, qd⟩, rfl, rfl, hg, ha, hn6, hm, hs, hno, hso⟩
  have hg9 := hg; rw [z5] at hg9
  have G6 := Lib.hid hg9; have A6 := Lib.hid ha; have N6 := Lib.hid hn6; have M6 := Lib.hid hm; have S6 := Lib.hid (since_step S5.out hs)
  have E6 := Lib.hid (B5.out.since hs (by omega))
  have NO := Lib.hid hno; have NS := Lib.hid hso
  clear hg hg9 ha hn6 hm hs hno hso
  go_wp2_with fail
  have e0 := E6.out.c0; have e1 := E6.out.c1; have e2 := E6.out.c2; have e3 := E6.out.c3
  have l0 := E6.out.free 0; have l1 := E6.out.free 1; have l2 := E6.out.free 2; have l3 := E6.out.free 3
  have p0 := N6.out.c0; have p1 := N6.out.c1; have p2 := N6.out.c2; have p3 := N6.out.c3
  have OO : Hid (On (w.heap.size + 1 + 1) w6 (((((w6.setCell ⟨w.heap.size + 1 + 1, 0, none⟩ (.float .f32 qa)).setCell ⟨w.heap.size + 1 + 1, 1, none⟩ (.float .f32 qb)).setCell ⟨w.heap.size + 1 + 1, 2, none⟩ (.float .f32 qc)).setCell ⟨w.heap.size + 1 + 1, 3, none⟩ (.float .f32 qd)))) := Lib.hid (((((On.refl _ _).set _ _).set _ _).set _ _).set _ _)
  have NB := Lib.hid (E6.out.set qa qb qc qd)
  go_region
  all_goals
    generalize hV2 : World.setCell _ _ _ = V2 at *
    have g0 := NB.out.c0; have g1 := NB.out.c1; have g2 := NB.out.c2; have g3 := NB.out.c3
    go_wp2
    exact bodyPost_ret (v := .tuple #[.slice p.A p.n c', .agg #[.float .f32 qa, .float .f32 qb, .float .f32 qc, .float .f32 qd], .bool true]) (by simp [results, Try.results17, go_sem, g0, g1, g2, g3]) rfl
      ⟨p, c', ⟨qa, qb, qc, qd⟩, rfl, rfl, (gs_low G6.out OO.out (by omega)).less (by omega), A6.out, M6.out, by first | exact S6.out.trans (since_mono OO.out.1 (by omega)) | exact since_drewN (S6.out.trans (since_mono OO.out.1 (by omega))) _, NO.out, NS.out⟩
theorem implRF_ok (form : Nat) (hform : form ≤ 2) (fu : Bool) (f : FilN) (m : MemN) (F : Fil) (M : Mem) (A : Option Addr) (n c : Nat) (xs : List Nat) (w : World) (hF : FvF f F) (hM : FvM m M) (hA : Fs w w.heap.size A n xs) (hn : n ≤ 256) :
    Calls Try.prog 17 #[f.val, .int .i64 (form : Int), .bool fu, m.val, .slice A n c] w (PLMB n (filY form fu F M (fun k => ab .f32 (wd xs k))) (filM form fu F M (fun k => ab .f32 (wd xs k)) n) true w) :=
  (implRF_own form hform fu f m F M A n c xs w hF hM hA hn).mono fun e w' ⟨p, c, m, h1, h2, h3, h4, h5, h6, _⟩ => ⟨p, c, m, h1, h2, h3, h4, h5, h6⟩
set_option maxHeartbeats 8000000 in
set_option maxRecDepth 100000 in
theorem implRF_no (form : Int) (fu : Bool) (f : FilN) (m : MemN) (A : Option Addr) (n c : Nat) (w : World) (h : ¬ (inB form 0 2 = true ∧ n ≤ 256)) (G : Nat → O) :
    Calls Try.prog 17 #[f.val, .int .i64 form, .bool fu, m.val, .slice A n c] w (PLMB 0 G noM false w) := by
  have HR := Lib.hid fun (V : World) (b1 b2 : Nat) => implRFs_no form fu A n c b1 b2 V h
  clear h
  obtain ⟨b0, b1, b2, a1, a2⟩ := f
  obtain ⟨ma, mb, mc, md⟩ := m
  unfold FilN.val MemN.val
  go_enter Try.func17, Try.ntmps17
  go_wp2_with fail
  generalize hW1 : World.alloc w _ = W1
  generalize hW2 : World.alloc W1 _ = W2
  generalize hW3 : World.alloc W2 _ = W3
  generalize hW4 : World.alloc W3 _ = W4
  generalize hW5 : World.alloc W4 _ = W5
  have z1 : W1.heap.size = w.heap.size + 1 := by rw [← hW1]; simp
  have z2 : W2.heap.size = w.heap.size + 1 + 1 := by rw [← hW2]; simp [z1]
  have z3 : W3.heap.size = w.heap.size + 1 + 1 + 1 := by rw [← hW3]; simp [z2]
  have z4 : W4.heap.size = w.heap.size + 1 + 1 + 1 + 1 := by rw [← hW4]; simp [z3]
  have s1 : w.Since w.heap.size W1 := by rw [← hW1]; exact (World.Since.refl _ _).alloc (Nat.le_refl _) _
  have s2 : W1.Since W1.heap.size W2 := by rw [← hW2]; exact (World.Since.refl _ _).alloc (Nat.le_refl _) _
  have s3 : W2.Since W2.heap.size W3 := by rw [← hW3]; exact (World.Since.refl _ _).alloc (Nat.le_refl _) _
  have s4 : W3.Since W3.heap.size W4 := by rw [← hW4]; exact (World.Since.refl _ _).alloc (Nat.le_refl _) _
  have s5 : W4.Since W4.heap.size W5 := by rw [← hW5]; exact (World.Since.refl _ _).alloc (Nat.le_refl _) _
  have z5 : W5.heap.size = w.heap.size + 1 + 1 + 1 + 1 + 1 := by rw [← hW5]; simp [z4]
  have S5 : Hid (w.Since w.heap.size W5) := Lib.hid (((((s1.trans (since_mono s2 (by omega))).trans (since_mono s3 (by omega))).trans (since_mono s4 (by omega))).trans (since_mono s5 (by omega))))
  have B3 : MemB 28 W3 (w.heap.size + 1 + 1) ⟨0, 0, 0, 0⟩ := by rw [← hW3, ← z2]; exact MemB.new _ _ _ _ _ _
  have B5 := Lib.hid ((B3.since s4 (by omega)).since s5 (by omega))
  clear hW1 hW2 hW3 hW4 hW5 s1 s2 s3 s4 s5 B3 z1 z2 z3 z4
  refine (HR.out W5 _ _).mono ?_
  rintro e w6 ⟨rfl, hs⟩
  have S6 := Lib.hid (since_step S5.out hs)
  have E6 := Lib.hid (B5.out.since hs (by omega))
  clear hs
  have e0 := E6.out.c0; have e1 := E6.out.c1; have e2 := E6.out.c2; have e3 := E6.out.c3
  have l0 := E6.out.free 0; have l1 := E6.out.free 1; have l2 := E6.out.free 2; have l3 := E6.out.free 3
  have OO : Hid (On (w.heap.size + 1 + 1) w6 (((((w6.setCell ⟨w.heap.size + 1 + 1, 0, none⟩ (.float .f32 0)).setCell ⟨w.heap.size + 1 + 1, 1, none⟩ (.float .f32 0)).setCell ⟨w.heap.size + 1 + 1, 2, none⟩ (.float .f32 0)).setCell ⟨w.heap.size + 1 + 1, 3, none⟩ (.float .f32 0)))) := Lib.hid (((((On.refl _ _).set _ _).set _ _).set _ _).set _ _)
  have NB := Lib.hid (E6.out.set 0 0 0 0)
  go_wp2_with fail
  generalize hV2 : World.setCell _ _ _ = V2 at *
  have g0 := NB.out.c0; have g1 := NB.out.c1; have g2 := NB.out.c2; have g3 := NB.out.c3
  exact bodyPost_ret (v := .tuple #[.slice none 0 0, .agg #[.float .f32 0, .float .f32 0, .float .f32 0, .float .f32 0], .bool false]) (by simp [results, Try.results17, go_sem, g0, g1, g2, g3]) rfl (PLMB.none_ (S6.out.trans (since_mono OO.out.1 (by omega))) _)
end Go.Proofs.Ytebocaicebolaaa

/- Filters: two filters over samples, the program's. -/
set_option linter.unusedVariables false
set_option linter.unusedSimpArgs false
namespace Go.Proofs.Ytebocaicebolaaa
open Fl Go.RowKit
/-- two memories in a block -/
def TwoB (T : TypeId) (w : World) (b : Nat) (m k : MemN) : Prop := w.heap[b]? = some (.cells #[.float .f32 m.a, .float .f32 m.b, .float .f32 m.c, .float .f32 m.d, .float .f32 k.a, .float .f32 k.b, .float .f32 k.c, .float .f32 k.d] T (0, 0))
section
variable {T : TypeId} {w w' : World} {b : Nat} {m k : MemN}
theorem TwoB.lt (h : TwoB T w b m k) : b < w.heap.size := (Array.getElem?_eq_some_iff.1 h).1
theorem TwoB.c0 (h : TwoB T w b m k) : w.cell? ⟨b, 0, none⟩ = some (.float .f32 m.a) := by unfold TwoB at h; simp [World.cell?, h]
theorem TwoB.c1 (h : TwoB T w b m k) : w.cell? ⟨b, 1, none⟩ = some (.float .f32 m.b) := by unfold TwoB at h; simp [World.cell?, h]
theorem TwoB.c2 (h : TwoB T w b m k) : w.cell? ⟨b, 2, none⟩ = some (.float .f32 m.c) := by unfold TwoB at h; simp [World.cell?, h]
theorem TwoB.c3 (h : TwoB T w b m k) : w.cell? ⟨b, 3, none⟩ = some (.float .f32 m.d) := by unfold TwoB at h; simp [World.cell?, h]
theorem TwoB.c4 (h : TwoB T w b m k) : w.cell? ⟨b, 4, none⟩ = some (.float .f32 k.a) := by unfold TwoB at h; simp [World.cell?, h]
theorem TwoB.c5 (h : TwoB T w b m k) : w.cell? ⟨b, 5, none⟩ = some (.float .f32 k.b) := by unfold TwoB at h; simp [World.cell?, h]
theorem TwoB.c6 (h : TwoB T w b m k) : w.cell? ⟨b, 6, none⟩ = some (.float .f32 k.c) := by unfold TwoB at h; simp [World.cell?, h]
theorem TwoB.c7 (h : TwoB T w b m k) : w.cell? ⟨b, 7, none⟩ = some (.float .f32 k.d) := by unfold TwoB at h; simp [World.cell?, h]
theorem TwoB.free (h : TwoB T w b m k) (q : Nat) : w.frozen? ⟨b, q, none⟩ = false := by unfold TwoB at h; simp [World.frozen?, h]
theorem TwoB.of (h : TwoB T w b m k) (e : w'.heap[b]? = w.heap[b]?) : TwoB T w' b m k := e.trans h
theorem TwoB.since {B : Nat} (h : TwoB T w b m k) (s : w.Since B w') (hb : b < B) : TwoB T w' b m k := h.of (s.block b hb)
theorem TwoB.setL (h : TwoB T w b m k) (x y z u : Nat) : TwoB T ((((w.setCell ⟨b, 0, none⟩ (.float .f32 x)).setCell ⟨b, 1, none⟩ (.float .f32 y)).setCell ⟨b, 2, none⟩ (.float .f32 z)).setCell ⟨b, 3, none⟩ (.float .f32 u)) b ⟨x, y, z, u⟩ k := by
  unfold TwoB at h ⊢
  simp [World.setCell, Array.getElem?_modify, h]
theorem TwoB.setR (h : TwoB T w b m k) (x y z u : Nat) : TwoB T ((((w.setCell ⟨b, 4, none⟩ (.float .f32 x)).setCell ⟨b, 5, none⟩ (.float .f32 y)).setCell ⟨b, 6, none⟩ (.float .f32 z)).setCell ⟨b, 7, none⟩ (.float .f32 u)) b m ⟨x, y, z, u⟩ := by
  unfold TwoB at h ⊢
  simp [World.setCell, Array.getElem?_modify, h]
theorem TwoB.new (T : TypeId) (w : World) (a b c d x y z u : Nat) : TwoB T (w.alloc (.cells #[.float .f32 a, .float .f32 b, .float .f32 c, .float .f32 d, .float .f32 x, .float .f32 y, .float .f32 z, .float .f32 u] T)) w.heap.size ⟨a, b, c, d⟩ ⟨x, y, z, u⟩ := Go.Deep.blk_alloc_new _ _
end
/-- two filters in a block -/
structure TwoF (w : World) (g : Nat) (f h : FilN) : Prop where
  lt : g < w.heap.size
  k0 : w.cell? ⟨g, 0, none⟩ = some (.float .f32 f.b0)
  k1 : w.cell? ⟨g, 1, none⟩ = some (.float .f32 f.b1)
  k2 : w.cell? ⟨g, 2, none⟩ = some (.float .f32 f.b2)
  k3 : w.cell? ⟨g, 3, none⟩ = some (.float .f32 f.a1)
  k4 : w.cell? ⟨g, 4, none⟩ = some (.float .f32 f.a2)
  k5 : w.cell? ⟨g, 5, none⟩ = some (.float .f32 h.b0)
  k6 : w.cell? ⟨g, 6, none⟩ = some (.float .f32 h.b1)
  k7 : w.cell? ⟨g, 7, none⟩ = some (.float .f32 h.b2)
  k8 : w.cell? ⟨g, 8, none⟩ = some (.float .f32 h.a1)
  k9 : w.cell? ⟨g, 9, none⟩ = some (.float .f32 h.a2)
theorem TwoF.since {w w2 : World} {g : Nat} {f h : FilN} (k : TwoF w g f h) (s : w.Since (g + 1) w2) : TwoF w2 g f h :=
  ⟨Nat.lt_of_lt_of_le k.lt s.size, (s.cell (a := ⟨g, 0, none⟩) (by show g < g + 1; omega)).trans k.k0, (s.cell (a := ⟨g, 1, none⟩) (by show g < g + 1; omega)).trans k.k1, (s.cell (a := ⟨g, 2, none⟩) (by show g < g + 1; omega)).trans k.k2, (s.cell (a := ⟨g, 3, none⟩) (by show g < g + 1; omega)).trans k.k3, (s.cell (a := ⟨g, 4, none⟩) (by show g < g + 1; omega)).trans k.k4, (s.cell (a := ⟨g, 5, none⟩) (by show g < g + 1; omega)).trans k.k5, (s.cell (a := ⟨g, 6, none⟩) (by show g < g + 1; omega)).trans k.k6, (s.cell (a := ⟨g, 7, none⟩) (by show g < g + 1; omega)).trans k.k7, (s.cell (a := ⟨g, 8, none⟩) (by show g < g + 1; omega)).trans k.k8, (s.cell (a := ⟨g, 9, none⟩) (by show g < g + 1; omega)).trans k.k9⟩
theorem make_two (W : World) : (Instr.makeSlice 51 (.int .i64 2) (.int .i64 2)).run Try.prog W = .ok (.slice (some ⟨W.heap.size, 0, none⟩) 2 2) (W.alloc (.cells #[.float .f32 0, .float .f32 0, .float .f32 0, .float .f32 0, .float .f32 0, .float .f32 0, .float .f32 0, .float .f32 0] 28)) := by
  obtain ⟨i0, hi, hz0, hz1, hz2⟩ := info_parts Try.infoMem
  have h := run_make (P := Try.prog) W 51 28 i0 _ Try.underlying51 hi hz0 .i64 .i64 2 2 (by omega) (by omega) (by rw [hz2]; decide) (by omega)
  rw [hz1] at h
  have e : madeCells (Value.agg #[.float .f32 0, .float .f32 0, .float .f32 0, .float .f32 0]).cells (Int.toNat 2 * 4) = #[.float .f32 0, .float .f32 0, .float .f32 0, .float .f32 0, .float .f32 0, .float .f32 0, .float .f32 0, .float .f32 0] := by kernel_rfl
  rw [e] at h
  exact h
/-- one filter in place over a list of one's own, beside a block that is kept -/
theorem run_round (form : Nat) (kk : FuncId) (hkk : isNext form kk) (fu : Bool) (f : FilN) (m : MemN) (F : Fil) (M : Mem) (A : Option Addr) (n c lo mg : Nat) (ys : List Nat) (X : Nat → O) (w : World) (hF : FvF f F) (hM : FvM m M) (hG : Gs 22 w lo A n ys) (hY : ∀ j, j < n → ab .f32 (wd ys j) = X j) (ho : 0 < n → ∀ a, A = some a → ∃ g, a = ⟨g, 0, none⟩ ∧ g ≠ mg) (hn : n ≤ 256) (hlo : lo ≤ w.heap.size) (hmg : mg < w.heap.size) :
    Calls Try.prog 65 #[.agg #[.float .f32 f.b0, .float .f32 f.b1, .float .f32 f.b2, .float .f32 f.a1, .float .f32 f.a2, .bool fu], .func (.func kk) #[] #[], .agg #[.float .f32 m.a, .float .f32 m.b, .float .f32 m.c, .float .f32 m.d], .slice A n c] w fun e w' => ∃ (ma mb mc md : Nat) (zs : List Nat), e = .returned (.agg #[.float .f32 ma, .float .f32 mb, .float .f32 mc, .float .f32 md]) ∧ FvM ⟨ma, mb, mc, md⟩ (filM form fu F M X n) ∧ Gs 22 w' lo A n zs ∧ Are ⟨A, n, zs⟩ (filY form fu F M X) ∧ w.Since lo w' ∧ w'.heap[mg]? = w.heap[mg]? := by
  by_cases h0 : 0 < n
  · obtain ⟨g, cs, e9, hlg, hbg, _⟩ := hG.2.2 h0
    have hg1 : g < w.heap.size := (Array.getElem?_eq_some_iff.1 hbg).1
    obtain ⟨g2, e8, hne⟩ := ho h0 _ e9
    subst e9
    injection e8 with e8 _ _
    subst e8
    have h9 := implRun_any form kk hkk fu f m F M (some ⟨g, 0, none⟩) n c g lo X w hF hM (fun h0 => ⟨rfl, Pr.of hG h0 hY⟩) hn hlo
    simp only [MemN.val, setV] at h9
    refine h9.mono fun e w' => ?_
    rintro ⟨⟨ma, mb, mc, md⟩, he, hm, hp, hs2, hfr⟩
    obtain ⟨zs, h1, h2⟩ := (hp h0).done hlg
    exact ⟨ma, mb, mc, md, zs, he, hm, h1, h2, hs2, hfr _ hmg (fun h => hne h.symm)⟩
  · have h9 := implRun_any form kk hkk fu f m F M A n c w.heap.size lo X w hF hM (fun h => absurd h h0) hn hlo
    simp only [MemN.val, setV] at h9
    refine h9.mono fun e w' => ?_
    rintro ⟨⟨ma, mb, mc, md⟩, he, hm, hp, hs2, hfr⟩
    exact ⟨ma, mb, mc, md, [], he, hm, ⟨by simp; omega, (fun x hx => by cases hx), fun h => absurd h h0⟩, (fun j hj => absurd (Nat.lt_of_le_of_lt (Nat.zero_le _) hj) h0), hs2, hfr _ hmg (by omega)⟩
set_option maxHeartbeats 16000000 in
set_option maxRecDepth 100000 in
theorem implRFs_two (form : Nat) (hform : form ≤ 2) (fu : Bool) (f h : FilN) (m k : MemN) (F H : Fil) (M K : Mem) (A : Option Addr) (n c b1 b2 : Nat) (xs : List Nat) (w : World) (hF : FvF f F) (hH : FvF h H) (hM : FvM m M) (hK : FvM k K) (hA : Fs w w.heap.size A n xs) (hn : n ≤ 256) (hb1 : TwoF w b1 f h) (hb2 : TwoB 28 w b2 m k) :
    Calls Try.prog 33 #[.slice (some ⟨b1, 0, none⟩) 2 2, .int .i64 (form : Int), .bool fu, .slice (some ⟨b2, 0, none⟩) 2 2, .slice A n c] w fun e w' => ∃ (p : Ls) (c' mg : Nat) (m' k' : MemN), e = .returned (.tuple #[.slice p.A p.n c', .slice (some ⟨mg, 0, none⟩) 2 2, .bool true]) ∧ p.n = n ∧ Gs 22 w' w.heap.size p.A p.n p.xs ∧ Are p (filY form fu H K (filY form fu F M (fun k => ab .f32 (wd xs k)))) ∧ TwoB 28 w' mg m' k' ∧ FvM m' (filM form fu F M (fun k => ab .f32 (wd xs k)) n) ∧ FvM k' (filM form fu H K (filY form fu F M (fun k => ab .f32 (wd xs k))) n) ∧ w.Since w.heap.size w' ∧ w.heap.size ≤ mg := by
  obtain ⟨kk, hkk, hso⟩ := stepOf_any form hform
  have HSO := Lib.hid hso; clear hso
  have hfew : decide ((n : Int) ≤ 256) = true := decide_eq_true (by omega)
  have HSM : Hid (∀ v, Calls Try.prog 67 #[.slice A n c] v fun e w' => e = .returned (.bool true) ∧ v = w') := Lib.hid fun v => implSamples_b A n c true v hfew
  have HA := Lib.hid hA
  have HB1 := Lib.hid hb1; have HB2 := Lib.hid hb2
  clear hA hb1 hb2 hfew
  go_enter Try.func33, Try.ntmps33
  go_wp2_with (first | (go_at_call 63; refine (HSO.out _).mono ?_; rintro e w' ⟨rfl, rfl⟩) | (go_at_call 67; refine (HSM.out _).mono ?_; rintro e w' ⟨rfl, rfl⟩))
  go_at_call 68
  refine (clone_any A n c xs w HA.out hn).mono ?_
  rintro e w1 ⟨A', c', ys, rfl, hsome, hg, hy, hs⟩
  have G1 := Lib.hid hg; have Y1 := Lib.hid hy; have S1 := Lib.hid hs; have NS := Lib.hid hsome
  clear hg hy hs hsome
  have AO : Hid (∀ a, A' = some a → ∃ g, a = ⟨g, 0, none⟩ ∧ (0 < n → g < w1.heap.size)) := Lib.hid (fun a ha => by
    obtain ⟨g, e⟩ := NS.out.2 a ha
    refine ⟨g, e, fun h0 => ?_⟩
    obtain ⟨g2, cs, e9, hlg, hbg, _⟩ := G1.out.2.2 h0
    have := (Array.getElem?_eq_some_iff.1 hbg).1
    rw [ha, e] at e9
    injection e9 with e9
    injection e9 with e9 _ _
    omega)
  have hmk := make_two w1
  have z1 := S1.out.size
  go_wp2_with fail
  generalize hW2 : World.alloc w1 _ = w2
  have z2 : w2.heap.size = w1.heap.size + 1 := by rw [← hW2]; simp
  have hs2 : w1.Since w1.heap.size w2 := by rw [← hW2]; exact (World.Since.refl _ _).alloc (Nat.le_refl _) _
  have S2 := Lib.hid (since_step S1.out hs2)
  have N2 : Hid (TwoB 28 w2 w1.heap.size ⟨0, 0, 0, 0⟩ ⟨0, 0, 0, 0⟩) := Lib.hid (by rw [← hW2]; exact TwoB.new _ _ _ _ _ _ _ _ _ _)
  have G2 := Lib.hid (G1.out.since hs2)
  have F2 := Lib.hid (HB1.out.since (since_mono S2.out (show b1 + 1 ≤ w.heap.size by have := HB1.out.lt; omega)))
  have M2 := Lib.hid (HB2.out.since S2.out HB2.out.lt)
  clear hW2 hs2 hmk
  refine wp_loop_rounds 3 ?_
  have k0 := F2.out.k0; have k1 := F2.out.k1; have k2 := F2.out.k2; have k3 := F2.out.k3; have k4 := F2.out.k4
  rw [rounds_succ]
  go_wp2_with fail
  generalize hW3 : World.alloc w2 _ = wb0
  have z3 : wb0.heap.size = w2.heap.size + 1 := by rw [← hW3]; simp
  have hs3 : w2.Since w2.heap.size wb0 := by rw [← hW3]; exact (World.Since.refl _ _).alloc (Nat.le_refl _) _
  have FF0 : Hid (FilAt wb0 w2.heap.size f) := Lib.hid (by rw [← hW3]; exact ⟨by simp, by simp [go_sem], by simp [go_sem], by simp [go_sem], by simp [go_sem], by simp [go_sem]⟩)
  have N30 := Lib.hid (N2.out.since hs3 N2.out.lt)
  have M30 := Lib.hid (M2.out.since hs3 M2.out.lt)
  have F30 := Lib.hid (F2.out.since (since_mono hs3 (by have := F2.out.lt; omega)))
  have G30 := Lib.hid (G2.out.since hs3)
  have S30 := Lib.hid (since_step S2.out hs3)
  clear hW3 hs3 k0 k1 k2 k3 k4
  have FF' := FF0.out
  rw [z2] at FF'
  have k0 := FF'.b0; have k1 := FF'.b1; have k2 := FF'.b2; have k3 := FF'.a1; have k4 := FF'.a2
  have m0 := M30.out.c0; have m1 := M30.out.c1; have m2 := M30.out.c2; have m3 := M30.out.c3
  have h18 : w1.heap.size + 1 < wb0.heap.size := by omega
  have hmg : w1.heap.size < wb0.heap.size := N30.out.lt
  have hb2 : b2 < wb0.heap.size := M30.out.lt
  have hzw : w.heap.size ≤ wb0.heap.size := S30.out.size
  have RUN := Lib.hid (show ∀ V : World, wb0.Since wb0.heap.size V → Calls Try.prog 65 #[.agg #[.float .f32 f.b0, .float .f32 f.b1, .float .f32 f.b2, .float .f32 f.a1, .float .f32 f.a2, .bool fu], .func (.func kk) #[] #[], .agg #[.float .f32 m.a, .float .f32 m.b, .float .f32 m.c, .float .f32 m.d], .slice A' n c'] V fun e w' => ∃ (ma mb mc md : Nat) (zs : List Nat), e = .returned (.agg #[.float .f32 ma, .float .f32 mb, .float .f32 mc, .float .f32 md]) ∧ FvM ⟨ma, mb, mc, md⟩ (filM form fu F M (fun k => ab .f32 (wd xs k)) n) ∧ Gs 22 w' w.heap.size A' n zs ∧ Are ⟨A', n, zs⟩ (filY form fu F M (fun k => ab .f32 (wd xs k))) ∧ w.Since w.heap.size w' ∧ TwoB 28 w' w1.heap.size ⟨0, 0, 0, 0⟩ ⟨0, 0, 0, 0⟩ from fun V hs => by
    have hV := since_step S30.out hs
    refine (run_round form kk hkk fu f m F M A' n c' w.heap.size w1.heap.size ys (fun k => ab .f32 (wd xs k)) V hF hM (G30.out.since hs) (fun j hj => Y1.out j hj) (fun h0 a ha => ?_) hn hV.size (Nat.lt_of_lt_of_le hmg hs.size)).mono ?_
    · obtain ⟨g, e, hg⟩ := AO.out a ha
      exact ⟨g, e, by have := hg h0; omega⟩
    · rintro e w' ⟨ma, mb, mc, md, zs, he, hm, h1, h2, hs2, hfr⟩
      exact ⟨ma, mb, mc, md, zs, he, hm, h1, h2, hV.trans hs2, (N30.out.since hs N30.out.lt).of hfr⟩)
  clear FF'
  have HCO := Lib.hid (cellsOf_any m)
  have MEMO := Lib.hid memory_any
  unfold MemN.val at HCO MEMO
  go_region_with (first
    | (go_at_call 73; refine (HCO.out _).mono ?_; rintro e w4 ⟨rfl, hs⟩; (try replace hs := sinUD hs); obtain ⟨hc4, hf4⟩ := Fl.sinCell hs; have T4 := Lib.hid hs; clear hs)
    | (go_at_call 65; refine (RUN.out _ T4.out).mono ?_; rintro e w5 ⟨ma0, mb0, mc0, md0, zs0, rfl, hm, hg, ha, hs, hmb⟩; have M50 := Lib.hid hm; have G5 := Lib.hid hg; have A50 := Lib.hid ha; have T5 := Lib.hid hs; have N5 := Lib.hid hmb; clear hm hg ha hs hmb)
    | (go_at_call 75; refine (MEMO.out ⟨ma0, mb0, mc0, md0⟩ _).mono ?_; rintro e w6 ⟨rfl, hs⟩; (try replace hs := sinUD hs); have N6 := Lib.hid (N5.out.since hs N5.out.lt); have G6 := Lib.hid (G5.out.since hs); have T6 := Lib.hid (since_step T5.out hs); clear hs; have e0 := N6.out.c0; have e1 := N6.out.c1; have e2 := N6.out.c2; have e3 := N6.out.c3; have l0 := N6.out.free 0; have l1 := N6.out.free 1; have l2 := N6.out.free 2; have l3 := N6.out.free 3))
  all_goals
    have OO : Hid (On w1.heap.size w6 (((((w6.setCell ⟨w1.heap.size, 0, none⟩ (.float .f32 ma0)).setCell ⟨w1.heap.size, 1, none⟩ (.float .f32 mb0)).setCell ⟨w1.heap.size, 2, none⟩ (.float .f32 mc0)).setCell ⟨w1.heap.size, 3, none⟩ (.float .f32 md0)))) := Lib.hid (((((On.refl _ _).set _ _).set _ _).set _ _).set _ _)
    have NB0 := Lib.hid (N6.out.setL ma0 mb0 mc0 md0)
    have GV0 : Hid (Gs 22 (((((w6.setCell ⟨w1.heap.size, 0, none⟩ (.float .f32 ma0)).setCell ⟨w1.heap.size, 1, none⟩ (.float .f32 mb0)).setCell ⟨w1.heap.size, 2, none⟩ (.float .f32 mc0)).setCell ⟨w1.heap.size, 3, none⟩ (.float .f32 md0))) w.heap.size A' n zs0) := Lib.hid (by
      by_cases h0 : 0 < n
      · exact Gs.on G6.out OO.out (fun s t h => by obtain ⟨g, e, hg⟩ := AO.out _ h; have := hg h0; injection e with e _ _; omega)
      · exact ⟨G6.out.1, G6.out.2.1, fun h => absurd h h0⟩)
    have SV0 := Lib.hid (T6.out.trans (since_mono OO.out.1 z1))
    have HB1' := Lib.hid (HB1.out.since (since_mono (T6.out.trans (since_mono OO.out.1 z1)) (show b1 + 1 ≤ w.heap.size by have := HB1.out.lt; omega)))
    have HB2' := Lib.hid (HB2.out.since (T6.out.trans (since_mono OO.out.1 z1)) HB2.out.lt)
    generalize hV : World.setCell _ _ _ = V0 at *
    clear hV k0 k1 k2 k3 k4 m0 m1 m2 m3 e0 e1 e2 e3 l0 l1 l2 l3 RUN HCO MEMO OO G5 T5 N5 N6 G6 T6 hb2 hmg h18 hzw z3 FF0 N30 M30 F30 G30 S30
    go_wp2_with fail
    clear N2 M2 F2 G2 S2 z2
    have k5 := HB1'.out.k5; have k6 := HB1'.out.k6; have k7 := HB1'.out.k7; have k8 := HB1'.out.k8; have k9 := HB1'.out.k9
    rw [rounds_succ]
    go_wp2_with fail
    generalize hW3 : World.alloc V0 _ = wb1
    have z3 : wb1.heap.size = V0.heap.size + 1 := by rw [← hW3]; simp
    have hs3 : V0.Since V0.heap.size wb1 := by rw [← hW3]; exact (World.Since.refl _ _).alloc (Nat.le_refl _) _
    have FF1 : Hid (FilAt wb1 V0.heap.size h) := Lib.hid (by rw [← hW3]; exact ⟨by simp, by simp [go_sem], by simp [go_sem], by simp [go_sem], by simp [go_sem], by simp [go_sem]⟩)
    have N31 := Lib.hid (NB0.out.since hs3 NB0.out.lt)
    have M31 := Lib.hid (HB2'.out.since hs3 HB2'.out.lt)
    have F31 := Lib.hid (HB1'.out.since (since_mono hs3 (by have := HB1'.out.lt; omega)))
    have G31 := Lib.hid (GV0.out.since hs3)
    have S31 := Lib.hid (since_step SV0.out hs3)
    clear hW3 hs3 k5 k6 k7 k8 k9
    have FF' := FF1.out
    have k0 := FF'.b0; have k1 := FF'.b1; have k2 := FF'.b2; have k3 := FF'.a1; have k4 := FF'.a2
    have m4 := M31.out.c4; have m5 := M31.out.c5; have m6 := M31.out.c6; have m7 := M31.out.c7
    have h18 : V0.heap.size < wb1.heap.size := by omega
    have hmg : w1.heap.size < wb1.heap.size := N31.out.lt
    have hb2 : b2 < wb1.heap.size := M31.out.lt
    have hzw : w.heap.size ≤ wb1.heap.size := S31.out.size
    have RUN := Lib.hid (show ∀ V : World, wb1.Since wb1.heap.size V → Calls Try.prog 65 #[.agg #[.float .f32 h.b0, .float .f32 h.b1, .float .f32 h.b2, .float .f32 h.a1, .float .f32 h.a2, .bool fu], .func (.func kk) #[] #[], .agg #[.float .f32 k.a, .float .f32 k.b, .float .f32 k.c, .float .f32 k.d], .slice A' n c'] V fun e w' => ∃ (ma mb mc md : Nat) (zs : List Nat), e = .returned (.agg #[.float .f32 ma, .float .f32 mb, .float .f32 mc, .float .f32 md]) ∧ FvM ⟨ma, mb, mc, md⟩ (filM form fu H K (filY form fu F M (fun k => ab .f32 (wd xs k))) n) ∧ Gs 22 w' w.heap.size A' n zs ∧ Are ⟨A', n, zs⟩ (filY form fu H K (filY form fu F M (fun k => ab .f32 (wd xs k)))) ∧ w.Since w.heap.size w' ∧ TwoB 28 w' w1.heap.size ⟨ma0, mb0, mc0, md0⟩ ⟨0, 0, 0, 0⟩ from fun V hs => by
      have hV := since_step S31.out hs
      refine (run_round form kk hkk fu h k H K A' n c' w.heap.size w1.heap.size zs0 (filY form fu F M (fun k => ab .f32 (wd xs k))) V hH hK (G31.out.since hs) (fun j hj => A50.out j hj) (fun h0 a ha => ?_) hn hV.size (Nat.lt_of_lt_of_le hmg hs.size)).mono ?_
      · obtain ⟨g, e, hg⟩ := AO.out a ha
        exact ⟨g, e, by have := hg h0; omega⟩
      · rintro e w' ⟨ma, mb, mc, md, zs, he, hm, h1, h2, hs2, hfr⟩
        exact ⟨ma, mb, mc, md, zs, he, hm, h1, h2, hV.trans hs2, (N31.out.since hs N31.out.lt).of hfr⟩)
    clear FF'
    have HCO := Lib.hid (cellsOf_any k)
    have MEMO := Lib.hid memory_any
    unfold MemN.val at HCO MEMO
    go_region_with (first
      | (go_at_call 73; refine (HCO.out _).mono ?_; rintro e w4 ⟨rfl, hs⟩; (try replace hs := sinUD hs); obtain ⟨hc4, hf4⟩ := Fl.sinCell hs; have T4 := Lib.hid hs; clear hs)
      | (go_at_call 65; refine (RUN.out _ T4.out).mono ?_; rintro e w5 ⟨ma1, mb1, mc1, md1, zs1, rfl, hm, hg, ha, hs, hmb⟩; have M51 := Lib.hid hm; have G5 := Lib.hid hg; have A51 := Lib.hid ha; have T5 := Lib.hid hs; have N5 := Lib.hid hmb; clear hm hg ha hs hmb)
      | (go_at_call 75; refine (MEMO.out ⟨ma1, mb1, mc1, md1⟩ _).mono ?_; rintro e w6 ⟨rfl, hs⟩; (try replace hs := sinUD hs); have N6 := Lib.hid (N5.out.since hs N5.out.lt); have G6 := Lib.hid (G5.out.since hs); have T6 := Lib.hid (since_step T5.out hs); clear hs; have e4 := N6.out.c4; have e5 := N6.out.c5; have e6 := N6.out.c6; have e7 := N6.out.c7; have l4 := N6.out.free 4; have l5 := N6.out.free 5; have l6 := N6.out.free 6; have l7 := N6.out.free 7))
    all_goals
      have OO : Hid (On w1.heap.size w6 (((((w6.setCell ⟨w1.heap.size, 4, none⟩ (.float .f32 ma1)).setCell ⟨w1.heap.size, 5, none⟩ (.float .f32 mb1)).setCell ⟨w1.heap.size, 6, none⟩ (.float .f32 mc1)).setCell ⟨w1.heap.size, 7, none⟩ (.float .f32 md1)))) := Lib.hid (((((On.refl _ _).set _ _).set _ _).set _ _).set _ _)
      have NB1 := Lib.hid (N6.out.setR ma1 mb1 mc1 md1)
      have GV1 : Hid (Gs 22 (((((w6.setCell ⟨w1.heap.size, 4, none⟩ (.float .f32 ma1)).setCell ⟨w1.heap.size, 5, none⟩ (.float .f32 mb1)).setCell ⟨w1.heap.size, 6, none⟩ (.float .f32 mc1)).setCell ⟨w1.heap.size, 7, none⟩ (.float .f32 md1))) w.heap.size A' n zs1) := Lib.hid (by
        by_cases h0 : 0 < n
        · exact Gs.on G6.out OO.out (fun s t h => by obtain ⟨g, e, hg⟩ := AO.out _ h; have := hg h0; injection e with e _ _; omega)
        · exact ⟨G6.out.1, G6.out.2.1, fun h => absurd h h0⟩)
      have SV1 := Lib.hid (T6.out.trans (since_mono OO.out.1 z1))
      generalize hV : World.setCell _ _ _ = V1 at *
      clear hV k0 k1 k2 k3 k4 m4 m5 m6 m7 e4 e5 e6 e7 l4 l5 l6 l7 RUN HCO MEMO OO G5 T5 N5 N6 G6 T6 hb2 hmg h18 hzw z3 FF1 N31 M31 F31 G31 S31
      go_wp2_with fail
      rw [rounds_succ]
      go_wp2_with fail
      go_ret3
      exact ⟨⟨A', n, zs1⟩, c', w1.heap.size, ⟨ma0, mb0, mc0, md0⟩, ⟨ma1, mb1, mc1, md1⟩, rfl, rfl, GV1.out, A51.out, NB1.out, M50.out, M51.out, SV1.out, z1⟩
end Go.Proofs.Ytebocaicebolaaa

/- Draws: bytes that can be read, and the source of draws. -/
set_option linter.unusedVariables false
set_option linter.unusedSimpArgs false
namespace Go.Proofs.Ytebocaicebolaaa
open Fl Go.RowKit
theorem and255u (z : Int) : 0 ≤ wrap64 (bits BinOp.and IntKind.u64 z 255) ∧ wrap64 (bits BinOp.and IntKind.u64 z 255) < 256 := by
  have h : bits BinOp.and IntKind.u64 z 255 = z % 256 := by
    have hb : (BitVec.ofInt 64 255).toNat = 255 := by decide
    have ha : (BitVec.ofInt 64 z).toNat = (z % 18446744073709551616).toNat := by rw [BitVec.toNat_ofInt]; rfl
    have hw : ∀ n : Nat, n < 256 → IntKind.u64.wrap (n : Int) = n := fun n h => by rw [IntKind.wrap_u64]; omega
    show IntKind.u64.wrap (((BitVec.ofInt 64 z &&& BitVec.ofInt 64 255).toNat : Nat) : Int) = _
    rw [BitVec.toNat_and, ha, hb]
    have e : ∀ n : Nat, n &&& 255 = n % 256 := fun n => Nat.and_two_pow_sub_one_eq_mod n 8
    rw [e, hw _ (Nat.mod_lt _ (by decide))]
    omega
  rw [h]
  unfold wrap64
  omega
/-- bytes that can be read -/
def Bs (w : World) (B : Nat) (A : Option Addr) (n : Nat) (xs : List Int) : Prop :=
  xs.length = n ∧ (∀ k, 0 ≤ wi xs k ∧ wi xs k < 256) ∧ (0 < n → ∃ g off, A = some ⟨g, off, none⟩ ∧ g < B ∧ ∀ k, k < n → w.cell? ⟨g, off + k, none⟩ = some (.int .u8 (wi xs k)))
theorem Bs.keep {w w' : World} {B : Nat} {A : Option Addr} {n : Nat} {xs : List Int} (h : Bs w B A n xs) (hk : ∀ g o, g < B → w'.cell? ⟨g, o, none⟩ = w.cell? ⟨g, o, none⟩) : Bs w' B A n xs :=
  ⟨h.1, h.2.1, fun hn => by
    obtain ⟨g, off, e, hg, hc⟩ := h.2.2 hn
    exact ⟨g, off, e, hg, fun k hk' => (hk g _ hg).trans (hc k hk')⟩⟩
theorem Bs.more {w : World} {B B' : Nat} {A : Option Addr} {n : Nat} {xs : List Int} (h : Bs w B A n xs) (hB : B ≤ B') : Bs w B' A n xs :=
  ⟨h.1, h.2.1, fun hn => by
    obtain ⟨g, off, e, hg, hc⟩ := h.2.2 hn
    exact ⟨g, off, e, by omega, hc⟩⟩
theorem Bs.since {w w' : World} {B B' : Nat} {A : Option Addr} {n : Nat} {xs : List Int} (h : Bs w B A n xs) (hs : w.Since B' w') (hB : B ≤ B') : Bs w' B A n xs :=
  h.keep fun g o hg => hs.cell (a := ⟨g, o, none⟩) (by show g < B'; omega)
theorem Bs.drewN {w : World} {B : Nat} {A : Option Addr} {n : Nat} {xs : List Int} (h : Bs w B A n xs) (m : Nat) : Bs (w.drewN m) B A n xs := h.keep fun _ _ _ => rfl
/-- a source's block -/
def SrcB (w : World) (b : Nat) (A : Option Addr) (n c : Nat) (i sd : Int) : Prop := w.heap[b]? = some (.cells #[.slice A n c, .int .i64 i, .int .u64 sd] 125 (0, 0))
theorem SrcB.lt {w : World} {b n c : Nat} {A : Option Addr} {i sd : Int} (h : SrcB w b A n c i sd) : b < w.heap.size := (Array.getElem?_eq_some_iff.1 h).1
theorem SrcB.c0 {w : World} {b n c : Nat} {A : Option Addr} {i sd : Int} (h : SrcB w b A n c i sd) : w.cell? ⟨b, 0, none⟩ = some (.slice A n c) := by unfold SrcB at h; simp [World.cell?, h]
theorem SrcB.c1 {w : World} {b n c : Nat} {A : Option Addr} {i sd : Int} (h : SrcB w b A n c i sd) : w.cell? ⟨b, 1, none⟩ = some (.int .i64 i) := by unfold SrcB at h; simp [World.cell?, h]
theorem SrcB.c2 {w : World} {b n c : Nat} {A : Option Addr} {i sd : Int} (h : SrcB w b A n c i sd) : w.cell? ⟨b, 2, none⟩ = some (.int .u64 sd) := by unfold SrcB at h; simp [World.cell?, h]
theorem SrcB.free {w : World} {b n c q : Nat} {A : Option Addr} {i sd : Int} (h : SrcB w b A n c i sd) : w.frozen? ⟨b, q, none⟩ = false := by unfold SrcB at h; simp [World.frozen?, h]
theorem SrcB.of {w w' : World} {b n c : Nat} {A : Option Addr} {i sd : Int} (h : SrcB w b A n c i sd) (e : w'.heap[b]? = w.heap[b]?) : SrcB w' b A n c i sd := e.trans h
theorem SrcB.set1 {w : World} {b n c : Nat} {A : Option Addr} {i sd i' : Int} (h : SrcB w b A n c i sd) : SrcB (w.setCell ⟨b, 1, none⟩ (.int .i64 i')) b A n c i' sd := by
  unfold SrcB at h ⊢
  simp [World.setCell, Array.getElem?_modify, h]
theorem SrcB.set2 {w : World} {b n c : Nat} {A : Option Addr} {i sd sd' : Int} (h : SrcB w b A n c i sd) : SrcB (w.setCell ⟨b, 2, none⟩ (.int .u64 sd')) b A n c i sd' := by
  unfold SrcB at h ⊢
  simp [World.setCell, Array.getElem?_modify, h]
/-- a source in block b that has drawn at most K times, whose bytes lie in blocks before B -/
def Src (B b K : Nat) (w : World) : Prop := ∃ (A : Option Addr) (n c : Nat) (xs : List Int) (i sd : Int), SrcB w b A n c i sd ∧ Bs w B A n xs ∧ B ≤ b ∧ n ≤ 1048576 ∧ 0 ≤ i ∧ i ≤ (K : Int)
theorem Src.on {B b K : Nat} {w w' : World} (h : Src B b K w) (hs : w.Since (b + 1) w') : Src B b K w' := by
  obtain ⟨A, n, c, xs, i, sd, h1, h2, h3, h4, h5⟩ := h
  exact ⟨A, n, c, xs, i, sd, h1.of (hs.block b (by omega)), h2.since hs (by omega), h3, h4, h5⟩
theorem Src.up {B b K K' : Nat} {w : World} (h : Src B b K w) (hK : K ≤ K') : Src B b K' w := by
  obtain ⟨A, n, c, xs, i, sd, h1, h2, h3, h4, h5, h6⟩ := h
  exact ⟨A, n, c, xs, i, sd, h1, h2, h3, h4, h5, by omega⟩
theorem Src.lt {B b K : Nat} {w : World} (h : Src B b K w) : b < w.heap.size := by
  obtain ⟨A, n, c, xs, i, sd, h1, h2, h3, h4, h5, h6⟩ := h
  exact h1.lt
theorem Src.drewN {B b K : Nat} {w : World} (h : Src B b K w) (m : Nat) : Src B b K (w.drewN m) := h.on (since_drewN (World.Since.refl _ _) m)
theorem on_post {b lo : Nat} {w a c : World} (h : On b w a) (s : a.Since lo c) (hl : w.heap.size ≤ lo) (hb : b < w.heap.size) : On b w c :=
  ⟨h.1.trans (since_mono s (by omega)), fun x hx hn => (s.block x (by omega)).trans (h.2 x hx hn)⟩
theorem Src.low {B b K : Nat} {w : World} (h : Src B b K w) : B ≤ b := by
  obtain ⟨A, n, c, xs, i, sd, h1, h2, h3, h4, h5, h6⟩ := h
  exact h3
set_option maxHeartbeats 4000000 in
set_option maxRecDepth 100000 in
theorem next_any (B b K : Nat) (w : World) (h : Src B b K w) (hK : K ≤ 1000000000) :
    Calls Try.prog 96 #[.pointer (some ⟨b, 0, none⟩)] w fun e w' => ∃ v : Int, e = .returned (.int .i64 v) ∧ 0 ≤ v ∧ v < 256 ∧ Src B b (K + 1) w' ∧ On b w w' := by
  obtain ⟨A, n, c, xs, i, sd, h1, h2, h3, h4, h5, h6⟩ := h
  have H1 := Lib.hid h1; have H2 := Lib.hid h2
  have c0 := h1.c0; have c1 := h1.c1; have c2 := h1.c2
  have f1 := h1.free (q := 1); have f2 := h1.free (q := 2)
  clear h1 h2
  by_cases hi : i < (n : Int)
  · have hd : decide (i < (n : Int)) = true := decide_eq_true hi
    have hd2 : decide (i + 1 ≤ (n : Int)) = true := decide_eq_true (by omega)
    obtain ⟨j, rfl⟩ := Int.eq_ofNat_of_zero_le h5
    obtain ⟨g, off, rfl, hg, hc⟩ := H2.out.2.2 (by omega)
    have hcell := hc j (by omega)
    have hv := H2.out.2.1 j
    clear hc
    go_enter Try.func96, Try.ntmps96
    go_wp2_with fail
    go_quiet (fail)
    go_wp2_with fail
    go_quiet (fail)
    go_wp2_with fail
    generalize IntKind.wrap .u64 (IntKind.wrap .u64 (_ + _) + 1442695040888963407) = sd'
    generalize hW : World.setCell _ _ _ = W
    have B1 : Hid (SrcB W b (some ⟨g, off, none⟩) n c ((j : Int) + 1) sd') := Lib.hid (by rw [← hW]; exact H1.out.set1.set2)
    have O1 : Hid (On b w W) := Lib.hid (by rw [← hW]; exact ((On.refl _ _).set _ _).set _ _)
    have d0 := B1.out.c0; have d1 := B1.out.c1; have d2 := B1.out.c2
    clear hW
    go_quiet (fail)
    go_wp2
    go_ret
    exact ⟨_, rfl, hv.1, hv.2, ⟨_, n, c, xs, _, sd', B1.out, by first | exact (H2.out.since O1.out.1 h3).drewN _ | exact ((H2.out.since O1.out.1 h3).drewN _).drewN _, h3, h4, by omega, by omega⟩, by first | exact O1.out.drewN _ | exact (O1.out.drewN _).drewN _⟩
  · have hd : decide (i < (n : Int)) = false := decide_eq_false hi
    have hd2 : decide (i + 1 ≤ (n : Int)) = false := decide_eq_false (by omega)
    go_enter Try.func96, Try.ntmps96
    go_wp2_with fail
    go_quiet (fail)
    go_wp2_with fail
    generalize IntKind.wrap .u64 (IntKind.wrap .u64 _ + 1442695040888963407) = sd'
    generalize hW : World.setCell _ _ _ = W
    have B1 : Hid (SrcB W b A n c (i + 1) sd') := Lib.hid (by rw [← hW]; exact H1.out.set1.set2)
    have O1 : Hid (On b w W) := Lib.hid (by rw [← hW]; exact ((On.refl _ _).set _ _).set _ _)
    have d0 := B1.out.c0; have d1 := B1.out.c1; have d2 := B1.out.c2
    clear hW
    go_quiet (fail)
    go_wp2
    go_ret
    have h255 := and255u (sd' / 1099511627776)
    exact ⟨_, rfl, h255.1, h255.2, ⟨_, n, c, xs, _, sd', B1.out, by first | exact (H2.out.since O1.out.1 h3).drewN _ | exact ((H2.out.since O1.out.1 h3).drewN _).drewN _, h3, h4, by omega, by omega⟩, by first | exact O1.out.drewN _ | exact (O1.out.drewN _).drewN _⟩
end Go.Proofs.Ytebocaicebolaaa

/- Draws: picks of numbers. -/
set_option linter.unusedVariables false
set_option linter.unusedSimpArgs false
namespace Go.Proofs.Ytebocaicebolaaa
open Fl Go.RowKit
set_option maxHeartbeats 4000000 in
set_option maxRecDepth 100000 in
theorem pick_any (B b K : Nat) (n : Int) (w : World) (h : Src B b K w) (hK : K ≤ 1000000) (hn : n ≤ 1000000000) :
    Calls Try.prog 80 #[.pointer (some ⟨b, 0, none⟩), .int .i64 n] w fun e w' => ∃ v : Int, e = .returned (.int .i64 v) ∧ 0 ≤ v ∧ (1 ≤ n → v < n) ∧ Src B b (K + 2) w' ∧ On b w w' := by
  by_cases h1 : n ≤ 1
  · have hd : decide (n ≤ 1) = true := decide_eq_true h1
    go_enter Try.func80, Try.ntmps80
    go_wp2
    go_ret
    exact ⟨0, rfl, by omega, fun _ => by omega, h.up (by omega), On.refl _ _⟩
  · have hd : decide (n ≤ 1) = false := decide_eq_false h1
    have hz : n ≠ 0 := by omega
    have HH := Lib.hid h; clear h
    by_cases h2 : 200 < n
    · have hd2 : decide (200 < n) = true := decide_eq_true h2
      go_enter Try.func80, Try.ntmps80
      go_wp2_with fail
      refine (next_any B b K w HH.out (by omega)).mono ?_
      rintro e w1 ⟨v1, rfl, a1, a2, s1, o1⟩
      have S1 := Lib.hid s1; have O1 := Lib.hid o1; clear s1 o1
      go_wp2_with fail
      refine (next_any B b (K + 1) w1 S1.out (by omega)).mono ?_
      rintro e w2 ⟨v2, rfl, a3, a4, s2, o2⟩
      have S2 := Lib.hid s2; have O2 := Lib.hid o2; clear s2 o2
      go_wp2
      go_ret
      exact ⟨_, rfl, by exact Int.emod_nonneg _ hz, fun _ => by exact Int.emod_lt_of_pos _ (by omega), S2.out, O1.out.trans O2.out⟩
    · have hd2 : decide (200 < n) = false := decide_eq_false h2
      go_enter Try.func80, Try.ntmps80
      go_wp2_with fail
      refine (next_any B b K w HH.out (by omega)).mono ?_
      rintro e w1 ⟨v1, rfl, a1, a2, s1, o1⟩
      have S1 := Lib.hid s1; have O1 := Lib.hid o1; clear s1 o1
      go_wp2
      go_ret
      exact ⟨_, rfl, by exact Int.emod_nonneg _ hz, fun _ => by exact Int.emod_lt_of_pos _ (by omega), S1.out.up (by omega), O1.out⟩
theorem one_any (B b K : Nat) (n : Int) (w : World) (h : Src B b K w) (hK : K ≤ 1000000) (hn : n ≤ 1000000000) :
    Calls Try.prog 94 #[.pointer (some ⟨b, 0, none⟩), .int .i64 n] w fun e w' => ∃ v : Bool, e = .returned (.bool v) ∧ Src B b (K + 2) w' ∧ On b w w' := by
  have HH := Lib.hid h; clear h
  go_enter Try.func94, Try.ntmps94
  go_wp2_with fail
  refine (pick_any B b K n w HH.out hK hn).mono ?_
  rintro e w1 ⟨v1, rfl, a1, a2, s1, o1⟩
  have S1 := Lib.hid s1; have O1 := Lib.hid o1; clear s1 o1
  go_wp2
  go_ret
  exact ⟨_, rfl, S1.out, O1.out⟩
/-- one of a list of numbers that lie in a block of their own -/
theorem among_any (B b K g n : Nat) (xs : List Int) (w : World) (h : Src B b K w) (hK : K ≤ 1000000) (hx : Is w w.heap.size (some ⟨g, 0, none⟩) n xs) (h0 : 0 < n) (hn : n ≤ 1000000) (hg : b < g) (hlt : g < w.heap.size) :
    Calls Try.prog 105 #[.pointer (some ⟨b, 0, none⟩), .slice (some ⟨g, 0, none⟩) n n] w fun e w' => ∃ k : Nat, e = .returned (.int .i64 (wi xs k)) ∧ k < n ∧ Src B b (K + 2) w' ∧ On b w w' := by
  have HH := Lib.hid h; have HX := Lib.hid hx; clear h hx
  go_enter Try.func105, Try.ntmps105
  go_wp2_with fail
  refine (pick_any B b K n w HH.out hK (by omega)).mono ?_
  rintro e w1 ⟨v1, rfl, a1, a2, s1, o1⟩
  have S1 := Lib.hid s1; have O1 := Lib.hid o1; clear s1 o1
  obtain ⟨k, rfl⟩ := Int.eq_ofNat_of_zero_le a1
  have hk : k < n := by have := a2 (by omega); omega
  have hcell : w1.cell? ⟨g, k, none⟩ = some (.int .i64 (wi xs k)) := by
    obtain ⟨g', off, e, hg', hc⟩ := HX.out.2 h0
    injection e with e
    injection e with e1 e2
    subst e1; subst e2
    have := hc k hk
    rw [Nat.zero_add] at this
    exact (cell_of_block (O1.out.2 g hlt (by omega)) _).trans this
  go_wp2
  go_ret
  exact ⟨k, rfl, hk, S1.out, O1.out⟩
end Go.Proofs.Ytebocaicebolaaa

/- Draws: numbers and lists of numbers, of any bits. -/
set_option linter.unusedVariables false
set_option linter.unusedSimpArgs false
namespace Go.Proofs.Ytebocaicebolaaa
open Fl Go.RowKit
set_option maxHeartbeats 4000000 in
set_option maxRecDepth 100000 in
theorem plain_any (B b K : Nat) (w : World) (h : Src B b K w) (hK : K ≤ 900000) :
    Calls Try.prog 87 #[.pointer (some ⟨b, 0, none⟩)] w fun e w' => ∃ q Q, e = .returned (.float .f32 q) ∧ Hid (Fv .f32 q Q) ∧ Src B b (K + 4) w' ∧ On b w w' := by
  have HH := Lib.hid h; clear h
  go_enter Try.func87, Try.ntmps87
  go_wp2_with fail
  refine (pick_any B b K 129 w HH.out (by omega) (by omega)).mono ?_
  rintro e w1 ⟨v1, rfl, a1, a2, s1, o1⟩
  have a3 := a2 (by omega)
  have S1 := Lib.hid s1; have O1 := Lib.hid o1; clear s1 o1 a2
  go_wp2_with fail
  refine (one_any B b (K + 2) 4 w1 S1.out (by omega) (by omega)).mono ?_
  rintro e w2 ⟨v2, rfl, s2, o2⟩
  have S2 := Lib.hid s2; have O2 := Lib.hid o2; clear s2 o2
  have q1 := fI_fv (v1 - 64)
  have q7 : Hid (Fv .f32 1088421888 (some 1088421888)) := fvc (by decide) (by decide)
  have q16 : Hid (Fv .f32 1098907648 (some 1098907648)) := fvc (by decide) (by decide)
  cases v2
  all_goals
    go_wp2_with (with_reducible_and_instances refine Lo.wpList_fo _ rfl _ _ _ _ _ rfl _ _ _ _ _ rfl rfl rfl (by assumption) (by assumption) ?_; intro rr nn hrr)
    go_ret
    exact ⟨_, _, rfl, hrr, S2.out.drewN _, (O1.out.trans O2.out).drewN _⟩
theorem is_alloc (w : World) (T : TypeId) (xs : List Int) : Is (w.alloc (.cells (xs.map (Value.int .i64)).toArray T)) (w.alloc (.cells (xs.map (Value.int .i64)).toArray T)).heap.size (some ⟨w.heap.size, 0, none⟩) xs.length xs :=
  ⟨rfl, fun _ => ⟨w.heap.size, 0, rfl, by simp, fun k hk => by
    have h := Go.Deep.blk_alloc_new w (.cells (xs.map (Value.int .i64)).toArray T)
    rw [Nat.zero_add]
    unfold World.cell?
    simp only [h]
    simp [hk, iv, wi]⟩⟩
def numsA : List Int := [0, 2147483648, 2139095040, 4286578688, 2143289344, 1, 2139095039, 8388608, 8388607, 2147483649]
def numsB : List Int := [8388608, 2130706432, 1610612736, 536870912]
theorem numsA_in : ∀ k, k < 10 → 0 ≤ wi numsA k ∧ wi numsA k < 4294967296 := by decide
theorem numsB_in : ∀ k, k < 4 → 0 ≤ wi numsB k ∧ wi numsB k < 4294967296 := by decide
theorem from_int (z : Int) (h0 : 0 ≤ z) (h1 : z < 4294967296) (w : World) : Calls Try.prog 104 #[.int .i64 z] w fun e w' => ∃ q, e = .returned (.float .f32 q) ∧ Hid (Fv .f32 q (ab .f32 q)) ∧ w = w' := by
  obtain ⟨m, rfl⟩ := Int.eq_ofNat_of_zero_le h0
  have hm : m < 4294967296 := by omega
  exact (l01From_any m w hm).mono fun e w' ⟨h1, h2⟩ => ⟨m, h1, Lib.hid ⟨hm, rfl⟩, h2⟩
set_option maxHeartbeats 4000000 in
set_option maxRecDepth 100000 in
theorem float_any (B b K : Nat) (w : World) (h : Src B b K w) (hK : K ≤ 800000) :
    Calls Try.prog 95 #[.pointer (some ⟨b, 0, none⟩)] w fun e w' => ∃ q Q, e = .returned (.float .f32 q) ∧ Hid (Fv .f32 q Q) ∧ Src B b (K + 12) w' ∧ On b w w' := by
  have HH := Lib.hid h
  have hlt := h.lt
  clear h
  go_enter Try.func95, Try.ntmps95
  go_wp2_with fail
  refine (one_any B b K 12 w HH.out (by omega) (by omega)).mono ?_
  rintro e w1 ⟨v1, rfl, s1, o1⟩
  have S1 := Lib.hid s1; have O1 := Lib.hid o1; clear s1 o1
  cases v1
  · go_wp2_with fail
    refine (plain_any B b (K + 2) w1 S1.out (by omega)).mono ?_
    rintro e w2 ⟨q, Q, rfl, hq, s2, o2⟩
    have S2 := Lib.hid s2; have O2 := Lib.hid o2; clear s2 o2
    go_wp2
    go_ret
    exact ⟨_, _, rfl, hq, S2.out.up (by omega), O1.out.trans O2.out⟩
  · go_wp2_with fail
    refine (pick_any B b (K + 2) 4 w1 S1.out (by omega) (by omega)).mono ?_
    rintro e w2 ⟨v, rfl, a1, a2, s2, o2⟩
    have a3 := a2 (by omega)
    have S2 := Lib.hid s2; have O2 := Lib.hid (O1.out.trans o2); clear s2 o2 a2
    have hlt2 : b < w2.heap.size := S2.out.lt
    by_cases h0 : v = 0
    · subst h0
      go_wp2_with fail
      generalize hW : World.alloc _ _ = W
      have X1 : Hid (Is W W.heap.size (some ⟨w2.heap.size, 0, none⟩) 10 numsA) := Lib.hid (by rw [← hW]; exact is_alloc w2 2 numsA)
      have Z1 : Hid (W.heap.size = w2.heap.size + 1) := Lib.hid (by rw [← hW]; simp)
      have O3 : Hid (On b w W) := Lib.hid (by rw [← hW]; exact O2.out.alloc (by omega) _)
      have S3 : Hid (Src B b (K + 4) W) := Lib.hid (S2.out.on (by rw [← hW]; exact (World.Since.refl _ _).alloc (by omega) _))
      clear hW
      have hz := Z1.out
      refine (among_any B b (K + 4) w2.heap.size 10 numsA W S3.out (by omega) X1.out (by omega) (by omega) hlt2 (by omega)).mono ?_
      rintro e w3 ⟨k, rfl, hk, s4, o4⟩
      have S4 := Lib.hid s4; have O4 := Lib.hid (O3.out.trans o4); clear s4 o4
      have hm := numsA_in k hk
      generalize wi numsA k = m at *
      go_wp2_with fail
      refine (from_int m hm.1 hm.2 _).mono ?_
      rintro e w5 ⟨q, rfl, hq, rfl⟩
      go_wp2
      go_ret
      exact ⟨_, _, rfl, hq, S4.out.up (by omega), O4.out⟩
    · by_cases h1 : v = 1
      · subst h1
        go_wp2_with fail
        refine (pick_any B b (K + 4) 65536 w2 S2.out (by omega) (by omega)).mono ?_
        rintro e w3 ⟨v3, rfl, b1, b2, s3, o3⟩
        have b3 := b2 (by omega)
        have S3 := Lib.hid s3; have O3 := Lib.hid (O2.out.trans o3); clear s3 o3 b2
        go_wp2_with fail
        refine (pick_any B b (K + 4 + 2) 65536 w3 S3.out (by omega) (by omega)).mono ?_
        rintro e w4 ⟨v4, rfl, c1, c2, s4, o4⟩
        have c3 := c2 (by omega)
        have S4 := Lib.hid s4; have O4 := Lib.hid (O3.out.trans o4); clear s4 o4 c2
        go_wp2_with fail
        refine (from_int (v3 * 65536 + v4) (by omega) (by omega) _).mono ?_
        rintro e w5 ⟨q, rfl, hq, rfl⟩
        go_wp2
        go_ret
        exact ⟨_, _, rfl, hq, S4.out.up (by omega), O4.out⟩
      · by_cases h2 : v = 2
        · subst h2
          go_wp2_with fail
          refine (pick_any B b (K + 4) 65536 w2 S2.out (by omega) (by omega)).mono ?_
          rintro e w3 ⟨v3, rfl, b1, b2, s3, o3⟩
          have b3 := b2 (by omega)
          have S3 := Lib.hid s3; have O3 := Lib.hid (O2.out.trans o3); clear s3 o3 b2
          go_wp2_with fail
          refine (from_int (v3 * 65536) (by omega) (by omega) _).mono ?_
          rintro e w5 ⟨q, rfl, hq, rfl⟩
          go_wp2
          go_ret
          exact ⟨_, _, rfl, hq, S3.out.up (by omega), O3.out⟩
        · have e0 : decide (v = 0) = false := decide_eq_false h0
          have e1 : decide (v = 1) = false := decide_eq_false h1
          have e2 : decide (v = 2) = false := decide_eq_false h2
          have g0 : (v == 0) = false := by simpa using h0
          have g1 : (v == 1) = false := by simpa using h1
          have g2 : (v == 2) = false := by simpa using h2
          go_wp2_with fail
          refine (plain_any B b (K + 4) w2 S2.out (by omega)).mono ?_
          rintro e w3 ⟨q, Q, rfl, hq, s3, o3⟩
          have S3 := Lib.hid s3; have O3 := Lib.hid (O2.out.trans o3); clear s3 o3
          have hlt3 : b < w3.heap.size := S3.out.lt
          go_wp2_with fail
          generalize hW : World.alloc _ _ = W
          have X1 : Hid (Is W W.heap.size (some ⟨w3.heap.size, 0, none⟩) 4 numsB) := Lib.hid (by rw [← hW]; exact is_alloc w3 2 numsB)
          have Z1 : Hid (W.heap.size = w3.heap.size + 1) := Lib.hid (by rw [← hW]; simp)
          have O5 : Hid (On b w W) := Lib.hid (by rw [← hW]; exact O3.out.alloc (by omega) _)
          have S5 : Hid (Src B b (K + 4 + 4) W) := Lib.hid (S3.out.on (by rw [← hW]; exact (World.Since.refl _ _).alloc (by omega) _))
          clear hW
          have hz := Z1.out
          refine (among_any B b (K + 4 + 4) w3.heap.size 4 numsB W S5.out (by omega) X1.out (by omega) (by omega) hlt3 (by omega)).mono ?_
          rintro e w6 ⟨k, rfl, hk, s6, o6⟩
          have S6 := Lib.hid s6; have O6 := Lib.hid (O5.out.trans o6); clear s6 o6
          have hm := numsB_in k hk
          generalize wi numsB k = m at *
          go_wp2_with fail
          refine (from_int m hm.1 hm.2 _).mono ?_
          rintro e w7 ⟨q2, rfl, hq2, rfl⟩
          go_wp2_with (with_reducible_and_instances refine Lo.wpList_fo _ rfl _ _ _ _ _ rfl _ _ _ _ _ rfl rfl rfl (by assumption) (by assumption) ?_; intro rr nn hrr)
          go_ret
          exact ⟨_, _, rfl, hrr, (S6.out.up (by omega)).drewN _, O6.out.drewN _⟩
end Go.Proofs.Ytebocaicebolaaa

/- Draws: lists of numbers, and what chooses by a byte. -/
set_option linter.unusedVariables false
set_option linter.unusedSimpArgs false
namespace Go.Proofs.Ytebocaicebolaaa
open Fl Go.RowKit
/-- a row of numbers whatever they are -/
def RwA (lo : Nat) (w : World) (v : Value) (k : Nat) : Prop := (∃ F, Rw lo w v k F) ∧ ∃ g c, v = .slice (some ⟨g, 0, none⟩) k c
theorem Rw.like {lo : Nat} {w : World} {v : Value} {k : Nat} {F G : Nat → O} (h : Rw lo w v k F) (e : ∀ j, j < k → F j = G j) : Rw lo w v k G := by
  obtain ⟨os, h1, h2, h3⟩ := h
  exact ⟨os, h1, h2, fun j hj => (h3 j hj).trans (e j hj)⟩
theorem Rw.fin {lo : Nat} {w : World} {v : Value} {k : Nat} {F : Nat → O} (h : Rw lo w v k F) : ∃ (A : Option Addr) (c : Nat) (xs : List Nat), v = .slice A k c ∧ k ≤ c ∧ (A = none → k = 0 ∧ c = 0) ∧ (∀ a, A = some a → ∃ g, a = ⟨g, 0, none⟩ ∧ lo ≤ g) ∧ Gs 22 w lo A k xs ∧ Are ⟨A, k, xs⟩ F := by
  obtain ⟨os, h1, hs, hf⟩ := h
  rcases h1.2 with ⟨rfl, rfl⟩ | ⟨g, cap, cur, rfl, hg, _, hk, _⟩
  · exact ⟨none, 0, os, rfl, Nat.le_refl _, fun _ => ⟨rfl, rfl⟩, (fun a h => by cases h), Gs.of_own h1 hs, hf⟩
  · exact ⟨some ⟨g, 0, none⟩, cap, os, rfl, hk, (fun h => by cases h), fun a h => by cases h; exact ⟨g, rfl, hg⟩, Gs.of_own h1 hs, hf⟩
theorem RwA.grown {lo : Nat} {w : World} {v : Value} {k : Nat} {F : Nat → O} (h : Rw lo w v (k + 1) F) : RwA lo w v (k + 1) := by
  refine ⟨⟨F, h⟩, ?_⟩
  obtain ⟨A, c, xs, rfl, _, hn, hs, _⟩ := h.fin
  cases A with
  | none => exact absurd (hn rfl).1 (by omega)
  | some a =>
    obtain ⟨g, rfl, _⟩ := hs a rfl
    exact ⟨g, c, rfl⟩
theorem RwA.end_ {lo : Nat} {w : World} {v : Value} {k : Nat} (h : RwA lo w v k) : ∃ g c xs, v = .slice (some ⟨g, 0, none⟩) k c ∧ k ≤ c ∧ Gs 22 w lo (some ⟨g, 0, none⟩) k xs := by
  obtain ⟨⟨F, hF⟩, g, c, rfl⟩ := h
  obtain ⟨A, c', xs, e, hc, _, _, hg, _⟩ := hF.fin
  injection e with e1 e2 e3
  subst e1; subst e3
  exact ⟨g, c, xs, rfl, hc, hg⟩
theorem RwA.pick {lo : Nat} {w : World} {v : Value} {k : Nat} (h : RwA lo w v k) (Q : O) : ∃ F, Rw lo w v k F ∧ F k = Q := by
  obtain ⟨⟨F, hF⟩, _⟩ := h
  exact ⟨fun j => if j = k then Q else F j, hF.like fun j hj => by simp [show j ≠ k by omega], by simp⟩
theorem RwA.on {lo g : Nat} {w w' : World} {v : Value} {k : Nat} (h : RwA lo w v k) (o : On g w w') (hg : g < lo) : RwA lo w' v k := by
  obtain ⟨⟨F, hF⟩, hv⟩ := h
  exact ⟨⟨F, hF.on o hg⟩, hv⟩
/-- numbers that a call has drawn: a list in memory of its own -/
def PDr (n : Nat) (w : World) (e : Ending) (w' : World) : Prop := ∃ (g c : Nat) (xs : List Nat), e = .returned (.slice (some ⟨g, 0, none⟩) n c) ∧ n ≤ c ∧ Gs 22 w' w.heap.size (some ⟨g, 0, none⟩) n xs ∧ w.Since w.heap.size w'
set_option maxHeartbeats 4000000 in
set_option maxRecDepth 100000 in
theorem floats_any (B b K N : Nat) (w : World) (h : Src B b K w) (hK : K ≤ 100000) (hN : N ≤ 10000) :
    Calls Try.prog 81 #[.pointer (some ⟨b, 0, none⟩), .int .i64 (N : Int)] w fun e w' => ∃ (g c : Nat) (xs : List Nat), e = .returned (.slice (some ⟨g, 0, none⟩) N c) ∧ N ≤ c ∧ Gs 22 w' w.heap.size (some ⟨g, 0, none⟩) N xs ∧ Src B b (K + 2 + 12 * N) w' ∧ On b w w' := by
  have HH := Lib.hid h
  have hlt := h.lt
  clear h
  go_enter Try.func81, Try.ntmps81
  go_wp2_with fail
  generalize hW : World.alloc _ _ = W
  have R1 : Hid (RwA w.heap.size W (.slice (some ⟨w.heap.size, 0, none⟩) 0 0) 0) := Lib.hid (by rw [← hW]; exact ⟨⟨fun _ => none, Rw.start w _ (Nat.le_refl _) _⟩, _, _, rfl⟩)
  have O1 : Hid (On b w W) := Lib.hid (by rw [← hW]; exact (On.refl _ _).alloc (by omega) _)
  have S1 : Hid (Src B b K W) := Lib.hid (HH.out.on (by rw [← hW]; exact (World.Since.refl _ _).alloc (by omega) _))
  clear hW
  refine (one_any B b K 4 W S1.out (by omega) (by omega)).mono ?_
  rintro e w1 ⟨st, rfl, s2, o2⟩
  have S2 := Lib.hid s2; have O2 := Lib.hid (O1.out.trans o2); have R2 := Lib.hid (R1.out.on o2 hlt); clear s2 o2 R1 O1 S1
  cases st
  all_goals
    go_wp2_with fail
    go_loopw [1, 5] (fun i v wr => ∃ k : Nat, k ≤ N ∧ i = .int .i64 ((N : Int) - k) ∧ RwA w.heap.size wr v k ∧ Src B b (K + 2 + 12 * k) wr ∧ On b w wr) (fun i _ _ => (intOf i).toNat)
    case atStart => exact ⟨0, Nat.zero_le _, by simp, R2.out, S2.out, O2.out⟩
    case round =>
      obtain ⟨k, hk, rfl, hr, hs, ho⟩ := hrel
      have HR := Lib.hid hr; have HS := Lib.hid hs; have HO := Lib.hid ho
      clear hr hs ho
      by_cases hlt2 : k < N
      · have hd : decide (0 < (N : Int) - k) = true := decide_eq_true (by omega)
        go_wp2_with fail
        first
        | refine (plain_any B b (K + 2 + 12 * k) wr HS.out (by omega)).mono ?_
        | refine (float_any B b (K + 2 + 12 * k) wr HS.out (by omega)).mono ?_
        rintro e w3 ⟨q, Q, rfl, hq, s3, o3⟩
        have S3 : Hid (Src B b (K + 2 + 12 * (k + 1)) w3) := Lib.hid (s3.up (by omega))
        have O3 := Lib.hid (HO.out.trans o3); have R3 := Lib.hid (HR.out.on o3 hlt)
        clear s3 o3
        obtain ⟨F, hF, hFk⟩ := R3.out.pick Q
        have hlo : w.heap.size ≤ w3.heap.size := O3.out.1.size
        have HF := Lib.hid hF; clear hF
        have hz : Hid (Fv .f32 q (F k)) := by rw [hFk]; exact hq
        have hlt3 : b < w3.heap.size := by omega
        go_wp2_with (first | (at_builtin; refine wpList_app1 rfl (.tmp 20) (.tmp 23) rfl w.heap.size _ k _ rfl _ _ rfl (by simp [go_sem]) (by omega) (by simp; omega) hz (HF.out.alloc _) ?_; intro v' w4 hR4 hS4) | (at_builtin; refine wpList_app1 rfl (.tmp 15) (.tmp 18) rfl w.heap.size _ k _ rfl _ _ rfl (by simp [go_sem]) (by omega) (by simp; omega) hz (HF.out.alloc _) ?_; intro v' w4 hR4 hS4))
        have hs4 : w3.Since w.heap.size w4 := ((World.Since.refl _ _).alloc hlo _).trans hS4.out
        have HS4 := Lib.hid hs4; clear hs4
        go_roundw
        case rel => exact ⟨k + 1, by omega, by go_num, RwA.grown hR4.out, S3.out.on (since_mono HS4.out (by omega)), on_post O3.out HS4.out (Nat.le_refl _) hlt⟩
        case measure => simp [intOf]; omega
      · have hd : decide (0 < (N : Int) - k) = false := decide_eq_false (by omega)
        obtain rfl : k = N := by omega
        obtain ⟨g, cp, zs, rfl, hcp, hg⟩ := HR.out.end_
        have HG := Lib.hid hg; clear hg
        go_wp2
        go_ret
        exact ⟨g, cp, zs, rfl, hcp, HG.out, HS.out, HO.out⟩
end Go.Proofs.Ytebocaicebolaaa

/- Draws: what laws draw of their bytes. -/
set_option linter.unusedVariables false
set_option linter.unusedSimpArgs false
namespace Go.Proofs.Ytebocaicebolaaa
open Fl Go.RowKit
theorem source_any (A : Option Addr) (n c : Nat) (xs : List Int) (w : World) (h : Bs w w.heap.size A n xs) (hn : n ≤ 1048576) :
    Calls Try.prog 77 #[.slice A n c] w fun e w' => e = .returned (.pointer (some ⟨w.heap.size, 0, none⟩)) ∧ Src w.heap.size w.heap.size 0 w' ∧ w.Since w.heap.size w' := by
  have HH := Lib.hid h; clear h
  go_enter Try.func77, Try.ntmps77
  go_wp2
  go_ret
  refine ⟨rfl, ⟨A, n, c, xs, 0, 0, Go.Deep.blk_alloc_new _ _, HH.out.since ((World.Since.refl _ _).alloc (Nat.le_refl _) _) (Nat.le_refl _), Nat.le_refl _, hn, by omega, by omega⟩, (World.Since.refl _ _).alloc (Nat.le_refl _) _⟩
set_option maxHeartbeats 4000000 in
set_option maxRecDepth 100000 in
theorem samples_any (A : Option Addr) (n c : Nat) (xs : List Int) (m : Nat) (w : World) (h : Bs w w.heap.size A n xs) (hn : n ≤ 1048576) (hm : m ≤ 9000) :
    Calls Try.prog 42 #[.slice A n c, .int .i64 (m : Int)] w fun e w' => ∃ k, k ≤ m ∧ PDr k w e w' := by
  have HH := Lib.hid h; clear h
  go_enter Try.func42, Try.ntmps42
  go_wp2_with fail
  refine (source_any A n c xs w HH.out hn).mono ?_
  rintro e w1 ⟨rfl, s1, t1⟩
  have S1 := Lib.hid s1; have T1 := Lib.hid t1; clear s1 t1
  go_wp2_with fail
  refine (pick_any w.heap.size w.heap.size 0 ((m : Int) + 1) w1 S1.out (by omega) (by omega)).mono ?_
  rintro e w2 ⟨v, rfl, a1, a2, s2, o2⟩
  have a3 := a2 (by omega)
  obtain ⟨k, rfl⟩ := Int.eq_ofNat_of_zero_le a1
  have S2 := Lib.hid s2; have T2 := Lib.hid (T1.out.trans (o2.since (Nat.le_refl _))); clear s2 o2
  go_wp2_with fail
  refine (floats_any w.heap.size w.heap.size 2 k w2 S2.out (by omega) (by omega)).mono ?_
  rintro e w3 ⟨g, cp, zs, rfl, hp, hg, s3, o3⟩
  have hz := T2.out.size
  have G3 := Lib.hid (hg.less hz); have T3 := Lib.hid (T2.out.trans (o3.since (Nat.le_refl _))); clear hg s3 o3
  go_wp2
  go_ret
  exact ⟨k, by omega, g, cp, zs, rfl, hp, G3.out, T3.out⟩
set_option maxHeartbeats 4000000 in
set_option maxRecDepth 100000 in
theorem plains_any (A : Option Addr) (n c : Nat) (xs : List Int) (m : Nat) (w : World) (h : Bs w w.heap.size A n xs) (hn : n ≤ 1048576) (hm : m ≤ 9000) :
    Calls Try.prog 56 #[.slice A n c, .int .i64 (m : Int)] w (PDr m w) := by
  have HH := Lib.hid h; clear h
  go_enter Try.func56, Try.ntmps56
  go_wp2_with fail
  refine (source_any A n c xs w HH.out hn).mono ?_
  rintro e w1 ⟨rfl, s1, t1⟩
  have S1 := Lib.hid s1; have T1 := Lib.hid t1; clear s1 t1
  go_wp2_with fail
  generalize hW : World.alloc _ _ = W
  have z1 := T1.out.size
  have R2 : Hid (RwA w1.heap.size W (.slice (some ⟨w1.heap.size, 0, none⟩) 0 0) 0) := Lib.hid (by rw [← hW]; exact ⟨⟨fun _ => none, Rw.start w1 _ (Nat.le_refl _) _⟩, _, _, rfl⟩)
  have S2 : Hid (Src w.heap.size w.heap.size 0 W) := Lib.hid (S1.out.on (by rw [← hW]; exact (World.Since.refl _ _).alloc (by have := S1.out.lt; omega) _))
  have O2 : Hid (On w.heap.size w1 W) := Lib.hid (by rw [← hW]; exact (On.refl _ _).alloc z1 _)
  have hl1 : w.heap.size < w1.heap.size := S1.out.lt
  clear hW
  go_loopw [6, 7] (fun v i wr => ∃ k : Nat, k ≤ m ∧ i = .int .i64 (k : Int) ∧ RwA w1.heap.size wr v k ∧ Src w.heap.size w.heap.size (4 * k) wr ∧ On w.heap.size w1 wr) (fun _ i _ => m - (intOf i).toNat)
  case atStart => exact ⟨0, Nat.zero_le _, rfl, R2.out, S2.out, O2.out⟩
  case round =>
    obtain ⟨k, hk, rfl, hr, hs, ho⟩ := hrel
    have HR := Lib.hid hr; have HS := Lib.hid hs; have HO := Lib.hid ho
    clear hr hs ho
    by_cases hlt2 : k < m
    · go_wp2_with fail
      refine (plain_any w.heap.size w.heap.size (4 * k) wr HS.out (by omega)).mono ?_
      rintro e w3 ⟨q, Q, rfl, hq, s3, o3⟩
      have S3 : Hid (Src w.heap.size w.heap.size (4 * (k + 1)) w3) := Lib.hid (s3.up (by omega))
      have O3 := Lib.hid (HO.out.trans o3); have R3 := Lib.hid (HR.out.on o3 hl1)
      clear s3 o3
      obtain ⟨F, hF, hFk⟩ := R3.out.pick Q
      have hlo : w1.heap.size ≤ w3.heap.size := O3.out.1.size
      have HF := Lib.hid hF; clear hF
      have hz : Hid (Fv .f32 q (F k)) := by rw [hFk]; exact hq
      go_wp2_with (at_builtin; refine wpList_app1 rfl (.tmp 16) (.tmp 19) rfl w1.heap.size _ k _ rfl _ _ rfl (by simp [go_sem]) (by omega) (by simp; omega) hz (HF.out.alloc _) ?_; intro v' w4 hR4 hS4)
      have hs4 : w3.Since w1.heap.size w4 := ((World.Since.refl _ _).alloc hlo _).trans hS4.out
      have HS4 := Lib.hid hs4; clear hs4
      go_roundw
      case rel => exact ⟨k + 1, by omega, by go_num, RwA.grown hR4.out, S3.out.on (since_mono HS4.out (by omega)), on_post O3.out HS4.out (Nat.le_refl _) hl1⟩
      case measure => simp [intOf]; omega
    · obtain rfl : k = m := by omega
      obtain ⟨g, cp, zs, rfl, hcp, hg⟩ := HR.out.end_
      have HG := Lib.hid (hg.less z1); clear hg
      have T3 : Hid (w.Since w.heap.size wr) := Lib.hid (T1.out.trans (HO.out.since (Nat.le_refl _)))
      go_wp2
      go_ret
      exact ⟨g, cp, zs, rfl, hcp, HG.out, T3.out⟩
/-- a number below m that a byte chooses -/
theorem r8At_any (A : Option Addr) (n c : Nat) (xs : List Int) (k m : Int) (w : World) (h : Bs w w.heap.size A n xs) (hk : 0 ≤ k) (hk2 : k ≤ 1000000000) :
    Calls Try.prog 43 #[.slice A n c, .int .i64 k, .int .i64 m] w fun e w' => ∃ v : Int, e = .returned (.int .i64 v) ∧ 0 ≤ v ∧ (1 ≤ m → v < m) ∧ w.Since w.heap.size w' := by
  have HH := Lib.hid h; clear h
  obtain ⟨j, rfl⟩ := Int.eq_ofNat_of_zero_le hk
  by_cases h1 : m ≤ 1
  · have hd : decide (m ≤ 1) = true := decide_eq_true h1
    go_enter Try.func43, Try.ntmps43
    go_wp2
    go_ret
    exact ⟨0, rfl, by omega, fun _ => by omega, by (repeat (first | (with_reducible refine Fl.sinDrew ?_) | (with_reducible refine World.Since.drew ?_) | (with_reducible refine Fl.sinSet ?_ ?_; rotate_left) | (with_reducible refine Fl.sinAlloc ?_ ?_; rotate_left) | with_reducible exact World.Since.refl _ _ | with_reducible assumption | (with_reducible refine Fl.sinStep (by with_reducible assumption) ?_))); all_goals (first | omega | (simp; done) | (simp; omega) | (simp [go_sem]; done) | (simp [go_sem]; omega))⟩
  · have hd : decide (m ≤ 1) = false := decide_eq_false h1
    by_cases h2 : (n : Int) ≤ (j : Int)
    · have hd2 : decide ((n : Int) ≤ (j : Int)) = true := decide_eq_true h2
      go_enter Try.func43, Try.ntmps43
      go_wp2
      go_ret
      exact ⟨0, rfl, by omega, fun _ => by omega, by (repeat (first | (with_reducible refine Fl.sinDrew ?_) | (with_reducible refine World.Since.drew ?_) | (with_reducible refine Fl.sinSet ?_ ?_; rotate_left) | (with_reducible refine Fl.sinAlloc ?_ ?_; rotate_left) | with_reducible exact World.Since.refl _ _ | with_reducible assumption | (with_reducible refine Fl.sinStep (by with_reducible assumption) ?_))); all_goals (first | omega | (simp; done) | (simp; omega) | (simp [go_sem]; done) | (simp [go_sem]; omega))⟩
    · have hd2 : decide ((n : Int) ≤ (j : Int)) = false := decide_eq_false h2
      obtain ⟨g, off, rfl, hg, hc⟩ := HH.out.2.2 (by omega)
      have hcell := hc j (by omega)
      have hv := HH.out.2.1 j
      have hz : m ≠ 0 := by omega
      clear hc
      go_enter Try.func43, Try.ntmps43
      go_wp2
      go_ret
      exact ⟨_, rfl, Int.emod_nonneg _ hz, fun _ => Int.emod_lt_of_pos _ (by omega), by (repeat (first | (with_reducible refine Fl.sinDrew ?_) | (with_reducible refine World.Since.drew ?_) | (with_reducible refine Fl.sinSet ?_ ?_; rotate_left) | (with_reducible refine Fl.sinAlloc ?_ ?_; rotate_left) | with_reducible exact World.Since.refl _ _ | with_reducible assumption | (with_reducible refine Fl.sinStep (by with_reducible assumption) ?_))); all_goals (first | omega | (simp; done) | (simp; omega) | (simp [go_sem]; done) | (simp [go_sem]; omega))⟩
theorem r8Long_any (A B : Option Addr) (n c m d : Nat) (b : Bool) (w : World) (h : (decide ((48 : Int) < n) || decide ((48 : Int) < m)) = b) :
    Calls Try.prog 39 #[.slice A n c, .slice B m d] w fun e w' => e = .returned (.bool b) ∧ w.Since w.heap.size w' := by
  subst h
  cases h1 : decide ((48 : Int) < n)
  all_goals
    go_enter Try.func39, Try.ntmps39
    go_wp2
    go_ret
    exact ⟨ret_bool (by simp), by (repeat (first | (with_reducible refine Fl.sinDrew ?_) | (with_reducible refine World.Since.drew ?_) | (with_reducible refine Fl.sinSet ?_ ?_; rotate_left) | (with_reducible refine Fl.sinAlloc ?_ ?_; rotate_left) | with_reducible exact World.Since.refl _ _ | with_reducible assumption | (with_reducible refine Fl.sinStep (by with_reducible assumption) ?_))); all_goals (first | omega | (simp; done) | (simp; omega) | (simp [go_sem]; done) | (simp [go_sem]; omega))⟩
end Go.Proofs.Ytebocaicebolaaa

/- Draws: lists that a law compares, and the bytes of a law. -/
set_option linter.unusedVariables false
set_option linter.unusedSimpArgs false
namespace Go.Proofs.Ytebocaicebolaaa
open Fl Go.RowKit
set_option maxHeartbeats 8000000 in
theorem r8Same_any (A C : Option Addr) (n c d : Nat) (xs ys : List Nat) (w : World) (ha : Fs w w.heap.size A n xs) (hc : Fs w w.heap.size C n ys) (hn : n ≤ 1048576)
    (hs : ∀ k, k < n → ab .f32 (wd xs k) = ab .f32 (wd ys k)) :
    Calls Try.prog 44 #[.slice A n c, .slice C n d] w fun e w' => e = .returned (.bool true) ∧ w.Since w.heap.size w' := by
  have HA := Lib.hid ha
  have HC := Lib.hid hc
  have HS := Lib.hid hs
  clear ha hc hs
  go_enter Try.func44, Try.ntmps44
  go_wp2
  go_loopw [5] (fun i wr => ∃ k : Nat, k ≤ n ∧ i = .int .i64 k ∧ w.Since w.heap.size wr) (fun i _ => n - (intOf i).toNat)
  case atStart => exact ⟨0, Nat.zero_le _, rfl, World.Since.refl _ _⟩
  case round =>
    obtain ⟨k, hk, rfl, hs⟩ := hrel
    have HT := Lib.hid hs; clear hs
    by_cases hlt : k < n
    · obtain ⟨g, off, rfl, hg, hc1⟩ := HA.out.2.2 (by omega)
      obtain ⟨g', off', rfl, hg', hc2⟩ := HC.out.2.2 (by omega)
      have hcell : wr.cell? ⟨g, off + k, none⟩ = some (.float .f32 (wd xs k)) := (HT.out.cell (a := ⟨g, off + k, none⟩) hg).trans (hc1 k hlt)
      have hcell2 : wr.cell? ⟨g', off' + k, none⟩ = some (.float .f32 (wd ys k)) := (HT.out.cell (a := ⟨g', off' + k, none⟩) hg').trans (hc2 k hlt)
      have hw1 := HA.out.2.1.at_ k
      have hw2 := HC.out.2.1.at_ k
      have he : decide (bitsO (ab .f32 (wd xs k)) = bitsO (ab .f32 (wd ys k))) = true := decide_eq_true (by rw [HS.out k hlt])
      clear hc1 hc2
      go_wp2
      have HQ : Hid (∀ v : World, Calls Try.prog 47 #[.float .f32 (wd xs k), .float .f32 (wd ys k)] v fun e v' => e = .returned (.bool true) ∧ v' = v) := Lib.hid fun v => (implSame_any _ _ _ hw1 hw2).mono fun e v' ⟨h1, h2⟩ => ⟨by rw [h1, he], h2.symm⟩
      go_quiet (first | (go_at_call 47; refine Calls.quiet_of_same (HQ.out _)))
      go_wp2
      go_roundw
      case rel => exact ⟨k + 1, by omega, by go_num, since_drewN HT.out _⟩
      case measure => simp [intOf]; omega
    · go_wp2
      go_ret
      exact ⟨rfl, HT.out⟩
namespace Fl
open Go.ChangeShapes Go.WideShapes Go.RowKit Go.WideMaps Go.WideElems
section
variable {H : Type} {enc : TypeId × Value → H} {P : Program}
theorem open_bs {W : World} {base b0 : Nat} {r : Reach} {t e : TypeId} {v : Value} {d : DataW H} {ps : List MemPlace} (ht : P.underlying t = some (.slice e)) (he : P.underlying e = some (.int .u8)) (hc : P.cellsOf e = 1)
    (hval : Value.okWide P W r b0 t v) (h : DataW.Trod enc P W base (fun _ => true) true t v d ps) :
    ∃ (A : Option Addr) (n c : Nat) (xs : List Int), v = .slice A n c ∧ Bs W W.heap.size A n xs ∧ n ≤ 9223372036854775807 := by
  obtain ⟨A, n, c, rfl⟩ := okWide_slice ht hval
  obtain ⟨fuel, hf⟩ := h
  rcases Go.Deep.open_slice ht hf with ⟨hcs, _⟩ | ⟨a, len, cap, m, k, D, Pl, hcs, _, hl, hm, hmm, _, hi⟩
  · simp only [Value.cells, Array.toList] at hcs
    injection hcs with hcs _
    injection hcs with h1 h2 h3
    subst h1; subst h2; subst h3
    exact ⟨none, 0, 0, [], rfl, ⟨rfl, (fun k => by simp [wi]), (fun h => by omega)⟩, by omega⟩
  · simp only [Value.cells, Array.toList] at hcs
    injection hcs with hcs _
    injection hcs with h1 h2 h3
    subst h1; subst h2; subst h3
    rw [if_pos rfl] at hmm
    subst hmm
    have hcell : ∀ i, i < m → ∃ b : Int, W.cell? (a.add i) = some (.int .u8 b) ∧ (Lit.int .u8 b).wf = true := by
      intro i him
      obtain ⟨cs', hcs', htr⟩ := hi i him
      rw [hc, Nat.mul_one] at hcs'
      obtain ⟨_, hlen, hat⟩ := World.cells?_some hcs'
      obtain ⟨b, hb, hw⟩ := trod_in he htr
      have h0 := hat 0 (by omega)
      rw [hb] at h0
      refine ⟨b, ?_, hw⟩
      have e : (a.add i).add 0 = a.add i := by simp [Addr.add]
      rw [e] at h0
      exact h0
    let f : Nat → Int := fun i => if h : i < m then Classical.choose (hcell i h) else 0
    have hfs : ∀ i (h : i < m), W.cell? (a.add i) = some (.int .u8 (f i)) ∧ (Lit.int .u8 (f i)).wf = true := by
      intro i h
      have := Classical.choose_spec (hcell i h)
      simp only [f, dif_pos h]
      exact this
    have hw8 : ∀ i, 0 ≤ f i ∧ f i < 256 := by
      intro i
      by_cases h : i < m
      · have h1 := (hfs i h).2
        simp only [Lit.wf, Bool.and_eq_true, decide_eq_true_eq] at h1
        have e1 : IntKind.min .u8 = 0 := by kernel_rfl
        have e2 : IntKind.max .u8 = 255 := by kernel_rfl
        rw [e1, e2] at h1
        omega
      · simp [f, h]
    refine ⟨some a, n, m, (List.range n).map f, rfl, ⟨by simp, ?_, ?_⟩, by unfold maxLen at hm; omega⟩
    · intro k
      unfold wi
      by_cases hk : k < n
      · simpa [hk] using hw8 k
      · simp [hk]
    · intro hn
      obtain ⟨g, off, spot⟩ := a
      have h0 := (hfs 0 (by omega)).1
      have hspot : spot = none := by simpa [Addr.add] using World.cell?_spot h0
      subst hspot
      refine ⟨g, off, rfl, ?_, fun k hk => ?_⟩
      · have h1 : W.cell? ⟨g, off, none⟩ = some (.int .u8 (f 0)) := by simpa [Addr.add] using h0
        rcases Nat.lt_or_ge g W.heap.size with h2 | h2
        · exact h2
        · simp [World.cell?, Array.getElem?_eq_none h2] at h1
      · have h1 := (hfs k (by omega)).1
        rw [Go.WideShapes.add_plain] at h1
        rw [h1]
        unfold wi
        simp [hk]
end
end Fl
end Go.Proofs.Ytebocaicebolaaa

/- Draws: filters and memories of any numbers. -/
set_option linter.unusedVariables false
set_option linter.unusedSimpArgs false
namespace Go.Proofs.Ytebocaicebolaaa
open Fl Go.RowKit
set_option maxHeartbeats 4000000 in
set_option maxRecDepth 100000 in
theorem drawNum_any (B b K : Nat) (w : World) (h : Src B b K w) (hK : K ≤ 700000) :
    Calls Try.prog 93 #[.pointer (some ⟨b, 0, none⟩)] w fun e w' => ∃ q Q, e = .returned (.float .f32 q) ∧ Hid (Fv .f32 q Q) ∧ Src B b (K + 14) w' ∧ On b w w' := by
  have HH := Lib.hid h; clear h
  go_enter Try.func93, Try.ntmps93
  go_wp2_with fail
  refine (one_any B b K 8 w HH.out (by omega) (by omega)).mono ?_
  rintro e w1 ⟨v1, rfl, s1, o1⟩
  have S1 := Lib.hid s1; have O1 := Lib.hid o1; clear s1 o1
  cases v1
  · go_wp2_with fail
    refine (one_any B b (K + 2) 3 w1 S1.out (by omega) (by omega)).mono ?_
    rintro e w2 ⟨v2, rfl, s2, o2⟩
    have S2 := Lib.hid s2; have O2 := Lib.hid (O1.out.trans o2); clear s2 o2
    cases v2
    · go_wp2_with fail
      refine (pick_any B b (K + 2 + 2) 33 w2 S2.out (by omega) (by omega)).mono ?_
      rintro e w3 ⟨v3, rfl, a1, a2, s3, o3⟩
      have a3 := a2 (by omega)
      have S3 := Lib.hid s3; have O3 := Lib.hid (O2.out.trans o3); clear s3 o3 a2
      have q1 := fI_fv (v3 - 16)
      have q8 : Hid (Fv .f32 1090519040 (some 1090519040)) := fvc (by decide) (by decide)
      go_wp2_with (with_reducible_and_instances refine Lo.wpList_fo _ rfl _ _ _ _ _ rfl _ _ _ _ _ rfl rfl rfl (by assumption) (by assumption) ?_; intro rr nn hrr)
      go_ret
      exact ⟨_, _, rfl, hrr, (S3.out.up (by omega)).drewN _, O3.out.drewN _⟩
    · go_wp2
      go_ret
      exact ⟨_, _, rfl, fv0, S2.out.up (by omega), O2.out⟩
  · go_wp2_with fail
    refine (float_any B b (K + 2) w1 S1.out (by omega)).mono ?_
    rintro e w2 ⟨q, Q, rfl, hq, s2, o2⟩
    have S2 := Lib.hid s2; have O2 := Lib.hid (O1.out.trans o2); clear s2 o2
    go_wp2
    go_ret
    exact ⟨_, _, rfl, hq, S2.out, O2.out⟩
/-- a filter's block -/
def FilB (T : TypeId) (w : World) (b : Nat) (f : FilN) : Prop := w.heap[b]? = some (.cells #[.float .f32 f.b0, .float .f32 f.b1, .float .f32 f.b2, .float .f32 f.a1, .float .f32 f.a2] T (0, 0))
section
variable {T : TypeId} {w w' : World} {b : Nat} {f : FilN}
theorem FilB.lt (h : FilB T w b f) : b < w.heap.size := (Array.getElem?_eq_some_iff.1 h).1
theorem FilB.c0 (h : FilB T w b f) : w.cell? ⟨b, 0, none⟩ = some (.float .f32 f.b0) := by unfold FilB at h; simp [World.cell?, h]
theorem FilB.c1 (h : FilB T w b f) : w.cell? ⟨b, 1, none⟩ = some (.float .f32 f.b1) := by unfold FilB at h; simp [World.cell?, h]
theorem FilB.c2 (h : FilB T w b f) : w.cell? ⟨b, 2, none⟩ = some (.float .f32 f.b2) := by unfold FilB at h; simp [World.cell?, h]
theorem FilB.c3 (h : FilB T w b f) : w.cell? ⟨b, 3, none⟩ = some (.float .f32 f.a1) := by unfold FilB at h; simp [World.cell?, h]
theorem FilB.c4 (h : FilB T w b f) : w.cell? ⟨b, 4, none⟩ = some (.float .f32 f.a2) := by unfold FilB at h; simp [World.cell?, h]
theorem FilB.free (h : FilB T w b f) (q : Nat) : w.frozen? ⟨b, q, none⟩ = false := by unfold FilB at h; simp [World.frozen?, h]
theorem FilB.of (h : FilB T w b f) (e : w'.heap[b]? = w.heap[b]?) : FilB T w' b f := e.trans h
theorem FilB.since {B : Nat} (h : FilB T w b f) (s : w.Since B w') (hb : b < B) : FilB T w' b f := h.of (s.block b hb)
theorem FilB.on {g : Nat} (h : FilB T w b f) (s : On g w w') (hb : b ≠ g) : FilB T w' b f := h.of (s.2 b h.lt hb)
theorem FilB.s1 (h : FilB T w b f) (x : Nat) : FilB T (w.setCell ⟨b, 1, none⟩ (.float .f32 x)) b ⟨f.b0, x, f.b2, f.a1, f.a2⟩ := by unfold FilB at h ⊢; simp [World.setCell, Array.getElem?_modify, h]
theorem FilB.s2 (h : FilB T w b f) (x : Nat) : FilB T (w.setCell ⟨b, 2, none⟩ (.float .f32 x)) b ⟨f.b0, f.b1, x, f.a1, f.a2⟩ := by unfold FilB at h ⊢; simp [World.setCell, Array.getElem?_modify, h]
theorem FilB.s3 (h : FilB T w b f) (x : Nat) : FilB T (w.setCell ⟨b, 3, none⟩ (.float .f32 x)) b ⟨f.b0, f.b1, f.b2, x, f.a2⟩ := by unfold FilB at h ⊢; simp [World.setCell, Array.getElem?_modify, h]
theorem FilB.s4 (h : FilB T w b f) (x : Nat) : FilB T (w.setCell ⟨b, 4, none⟩ (.float .f32 x)) b ⟨f.b0, f.b1, f.b2, f.a1, x⟩ := by unfold FilB at h ⊢; simp [World.setCell, Array.getElem?_modify, h]
theorem FilB.all (h : FilB T w b f) (x y z u v : Nat) : FilB T (((((w.setCell ⟨b, 0, none⟩ (.float .f32 x)).setCell ⟨b, 1, none⟩ (.float .f32 y)).setCell ⟨b, 2, none⟩ (.float .f32 z)).setCell ⟨b, 3, none⟩ (.float .f32 u)).setCell ⟨b, 4, none⟩ (.float .f32 v)) b ⟨x, y, z, u, v⟩ := by unfold FilB at h ⊢; simp [World.setCell, Array.getElem?_modify, h]
theorem FilB.new (T : TypeId) (w : World) (x y z u v : Nat) : FilB T (w.alloc (.cells #[.float .f32 x, .float .f32 y, .float .f32 z, .float .f32 u, .float .f32 v] T)) w.heap.size ⟨x, y, z, u, v⟩ := Go.Deep.blk_alloc_new _ _
theorem FilB.at_ (h : FilB T w b f) : FilAt w b f := ⟨h.lt, h.c0, h.c1, h.c2, h.c3, h.c4⟩
theorem FilB.row (h : FilB T w b f) : w.rangeAt b 0 [.float .f32 f.b0, .float .f32 f.b1, .float .f32 f.b2, .float .f32 f.a1, .float .f32 f.a2] := by
  intro j x hj
  rw [Nat.zero_add]
  unfold FilB at h
  simp only [World.cell?, h]
  simpa using hj
theorem MemB.row {m : MemN} (h : MemB T w b m) : w.rangeAt b 0 [.float .f32 m.a, .float .f32 m.b, .float .f32 m.c, .float .f32 m.d] := by
  intro j x hj
  rw [Nat.zero_add]
  unfold MemB at h
  simp only [World.cell?, h]
  simpa using hj
theorem MemB.on {g : Nat} {m : MemN} (h : MemB T w b m) (s : On g w w') (hb : b ≠ g) : MemB T w' b m := h.of (s.2 b h.lt hb)
theorem MemB.t1 {m : MemN} (h : MemB T w b m) (x : Nat) : MemB T (w.setCell ⟨b, 1, none⟩ (.float .f32 x)) b ⟨m.a, x, m.c, m.d⟩ := by unfold MemB at h ⊢; simp [World.setCell, Array.getElem?_modify, h]
theorem MemB.t2 {m : MemN} (h : MemB T w b m) (x : Nat) : MemB T (w.setCell ⟨b, 2, none⟩ (.float .f32 x)) b ⟨m.a, m.b, x, m.d⟩ := by unfold MemB at h ⊢; simp [World.setCell, Array.getElem?_modify, h]
theorem MemB.t3 {m : MemN} (h : MemB T w b m) (x : Nat) : MemB T (w.setCell ⟨b, 3, none⟩ (.float .f32 x)) b ⟨m.a, m.b, m.c, x⟩ := by unfold MemB at h ⊢; simp [World.setCell, Array.getElem?_modify, h]
end
/-- what a call that has a block of its own changes -/
theorem Fl.On.own {b g : Nat} {w a : World} (h : On b w a) (hg : w.heap.size ≤ g) (hb : b < w.heap.size) (o : Nat) (v : Value) : On b w (a.setCell ⟨g, o, none⟩ v) :=
  on_post h ((World.Since.refl _ _).setCell (Nat.le_refl _) _) hg hb
theorem Src.own {B b K g : Nat} {w : World} (h : Src B b K w) (hg : b < g) (o : Nat) (v : Value) : Src B b K (w.setCell ⟨g, o, none⟩ v) :=
  h.on ((World.Since.refl _ _).setCell (show b + 1 ≤ g by omega) _)
theorem off_own {g r o : Nat} {v : Value} {w : World} (h : r ≠ g) : (w.setCell ⟨g, o, none⟩ v).heap[r]? = w.heap[r]? := Go.Deep.blk_setCell_other _ _ _ _ h
/-- a filter, a memory that was drawn -/
def PFil (B b K : Nat) (w : World) (e : Ending) (w' : World) : Prop := ∃ (f : FilN) (F : Fil), e = .returned f.val ∧ FvF f F ∧ Src B b K w' ∧ On b w w'
def PMem (B b K : Nat) (w : World) (e : Ending) (w' : World) : Prop := ∃ (f : MemN) (F : Mem), e = .returned f.val ∧ FvM f F ∧ Src B b K w' ∧ On b w w'
def PFilW (w : World) (e : Ending) (w' : World) : Prop := ∃ (f : FilN) (F : Fil), e = .returned f.val ∧ FvF f F ∧ w.Since w.heap.size w'
def PMemW (w : World) (e : Ending) (w' : World) : Prop := ∃ (f : MemN) (F : Mem), e = .returned f.val ∧ FvM f F ∧ w.Since w.heap.size w'
set_option maxHeartbeats 4000000 in
set_option maxRecDepth 100000 in
theorem drawFil_any (B b K : Nat) (w : World) (h : Src B b K w) (hK : K ≤ 500000) :
    Calls Try.prog 78 #[.pointer (some ⟨b, 0, none⟩)] w (PFil B b (K + 80) w) := by
  have HH := Lib.hid h
  have hlt := h.lt
  clear h
  have q8 : Hid (Fv .f32 1090519040 (some 1090519040)) := fvc (by decide) (by decide)
  go_enter Try.func78, Try.ntmps78
  go_wp2_with fail
  generalize hW : World.alloc w _ = W0
  have z0 : W0.heap.size = w.heap.size + 1 := by rw [← hW]; simp
  have R0 : Hid (FilB 31 W0 w.heap.size ⟨0, 0, 0, 0, 0⟩) := Lib.hid (by rw [← hW]; exact FilB.new _ _ _ _ _ _ _)
  have O0 : Hid (On b w W0) := Lib.hid (by rw [← hW]; exact (On.refl _ _).alloc (by omega) _)
  have S0 : Hid (Src B b K W0) := Lib.hid (HH.out.on (by rw [← hW]; exact (World.Since.refl _ _).alloc (by omega) _))
  clear hW
  refine (drawNum_any B b K W0 S0.out (by omega)).mono ?_
  rintro e w1 ⟨b0, Q0, rfl, h0, s1, o1⟩
  have z1 : W0.heap.size ≤ w1.heap.size := o1.1.size
  have R1 := Lib.hid (R0.out.on o1 (by omega)); have O1 := Lib.hid (O0.out.trans o1); have S1 := Lib.hid s1
  clear s1 o1 R0 O0 S0
  go_wp2_with fail
  generalize hW : World.alloc w1 _ = W1
  obtain ⟨q, hq⟩ : ∃ q, q = w1.heap.size := ⟨_, rfl⟩
  rw [← hq]
  have y1 : W1.heap.size = q + 1 := by rw [← hW, hq]; simp
  have F1 : Hid (FilB 31 W1 q ⟨b0, 0, 0, 0, 0⟩) := Lib.hid (by rw [← hW, hq]; exact FilB.new _ _ _ _ _ _ _)
  have hs : w1.Since w1.heap.size W1 := by rw [← hW]; exact (World.Since.refl _ _).alloc (Nat.le_refl _) _
  have R2 := Lib.hid (R1.out.since hs (by omega)); have O2 := Lib.hid (on_post O1.out hs (by omega) hlt); have S2 := Lib.hid (S1.out.on (since_mono hs (by omega)))
  have hqb : b < q := by omega
  have hqr : w.heap.size < q := by omega
  clear hq
  clear hW hs R1 O1 S1
  refine (drawNum_any B b (K + 14) W1 S2.out (by omega)).mono ?_
  rintro e w2 ⟨b1, Qb1, rfl, hb1, s, o⟩
  have zz : W1.heap.size ≤ w2.heap.size := o.1.size
  have F2a := Lib.hid (F1.out.on o (by omega)); have R2a := Lib.hid (R2.out.on o (by omega)); have O2a := Lib.hid (O2.out.trans o); have S2a := Lib.hid s
  clear s o F1 R2 O2 S2
  have cc := F2a.out.c1; have ff := F2a.out.free 1
  go_wp2_with fail
  generalize hW : World.setCell _ _ _ = V2
  have F2 : Hid (FilB 31 V2 q ⟨b0, b1, 0, 0, 0⟩) := Lib.hid (by rw [← hW]; exact F2a.out.s1 _)
  have R2 : Hid (FilB 31 V2 w.heap.size ⟨0, 0, 0, 0, 0⟩) := Lib.hid (by rw [← hW]; exact R2a.out.of (off_own (by omega)))
  have O2 : Hid (On b w V2) := Lib.hid (by rw [← hW]; exact O2a.out.own (by omega) hlt _ _)
  have S2 : Hid (Src B b (K + 14 + 14) V2) := Lib.hid (by rw [← hW]; exact S2a.out.own hqb _ _)
  have zv : V2.heap.size = w2.heap.size := by rw [← hW]; simp
  clear hW cc ff F2a R2a O2a S2a
  refine (drawNum_any B b (K + 14 + 14) V2 S2.out (by omega)).mono ?_
  rintro e w3 ⟨b2, Qb2, rfl, hb2, s, o⟩
  have zz : V2.heap.size ≤ w3.heap.size := o.1.size
  have F3a := Lib.hid (F2.out.on o (by omega)); have R3a := Lib.hid (R2.out.on o (by omega)); have O3a := Lib.hid (O2.out.trans o); have S3a := Lib.hid s
  clear s o F2 R2 O2 S2
  have cc := F3a.out.c2; have ff := F3a.out.free 2
  go_wp2_with fail
  generalize hW : World.setCell _ _ _ = V3
  have F3 : Hid (FilB 31 V3 q ⟨b0, b1, b2, 0, 0⟩) := Lib.hid (by rw [← hW]; exact F3a.out.s2 _)
  have R3 : Hid (FilB 31 V3 w.heap.size ⟨0, 0, 0, 0, 0⟩) := Lib.hid (by rw [← hW]; exact R3a.out.of (off_own (by omega)))
  have O3 : Hid (On b w V3) := Lib.hid (by rw [← hW]; exact O3a.out.own (by omega) hlt _ _)
  have S3 : Hid (Src B b (K + 14 + 14 + 14) V3) := Lib.hid (by rw [← hW]; exact S3a.out.own hqb _ _)
  have zv : V3.heap.size = w3.heap.size := by rw [← hW]; simp
  clear hW cc ff F3a R3a O3a S3a
  refine (pick_any B b (K + 14 + 14 + 14) 15 V3 S3.out (by omega) (by omega)).mono ?_
  rintro e w4 ⟨va1, rfl, u1, u2, s, o⟩
  have u3 := u2 (by omega)
  clear u2
  have zz : V3.heap.size ≤ w4.heap.size := o.1.size
  have F4a := Lib.hid (F3.out.on o (by omega)); have R4a := Lib.hid (R3.out.on o (by omega)); have O4a := Lib.hid (O3.out.trans o); have S4a := Lib.hid s
  clear s o F3 R3 O3 S3
  have cc := F4a.out.c3; have ff := F4a.out.free 3
  have qq := fI_fv (va1 - 7)
  go_wp2_with (with_reducible_and_instances refine Lo.wpList_fo _ rfl _ _ _ _ _ rfl _ _ _ _ _ rfl rfl rfl (by assumption) (by assumption) ?_; intro rr nn hrr)
  obtain ⟨a1, hnm⟩ : ∃ r, r = rr := ⟨_, rfl⟩
  obtain ⟨Qa1, hQ⟩ : ∃ Q, Q = opO .quo .f32 (some (fI (va1 - 7))) (some 1090519040) := ⟨_, rfl⟩
  have ha1 : Hid (Fv .f32 a1 Qa1) := by rw [hnm, hQ]; exact hrr
  rw [← hnm]
  clear hnm hQ hrr qq u1 u3
  generalize hW : World.drewN _ _ = V4
  have F4 : Hid (FilB 31 V4 q ⟨b0, b1, b2, a1, 0⟩) := Lib.hid (by rw [← hW]; exact FilB.of (F4a.out.s3 _) rfl)
  have R4 : Hid (FilB 31 V4 w.heap.size ⟨0, 0, 0, 0, 0⟩) := Lib.hid (by rw [← hW]; exact FilB.of (w := w4.setCell ⟨q, 3, none⟩ (.float .f32 a1)) (R4a.out.of (off_own (by omega))) rfl)
  have O4 : Hid (On b w V4) := Lib.hid (by rw [← hW]; exact (O4a.out.own (by omega) hlt _ _).drewN _)
  have S4 : Hid (Src B b (K + 14 + 14 + 14 + 2) V4) := Lib.hid (by rw [← hW]; exact (S4a.out.own hqb _ _).drewN _)
  have zv : V4.heap.size = w4.heap.size := by rw [← hW]; exact Go.Deep.nblk_setCell _ _ _
  clear hW cc ff F4a R4a O4a S4a
  refine (pick_any B b (K + 14 + 14 + 14 + 2) 7 V4 S4.out (by omega) (by omega)).mono ?_
  rintro e w5 ⟨va2, rfl, u1, u2, s, o⟩
  have u3 := u2 (by omega)
  clear u2
  have zz : V4.heap.size ≤ w5.heap.size := o.1.size
  have F5a := Lib.hid (F4.out.on o (by omega)); have R5a := Lib.hid (R4.out.on o (by omega)); have O5a := Lib.hid (O4.out.trans o); have S5a := Lib.hid s
  clear s o F4 R4 O4 S4
  have cc := F5a.out.c4; have ff := F5a.out.free 4
  have qq := fI_fv (va2 - 3)
  go_wp2_with (with_reducible_and_instances refine Lo.wpList_fo _ rfl _ _ _ _ _ rfl _ _ _ _ _ rfl rfl rfl (by assumption) (by assumption) ?_; intro rr nn hrr)
  obtain ⟨a2, hnm⟩ : ∃ r, r = rr := ⟨_, rfl⟩
  obtain ⟨Qa2, hQ⟩ : ∃ Q, Q = opO .quo .f32 (some (fI (va2 - 3))) (some 1090519040) := ⟨_, rfl⟩
  have ha2 : Hid (Fv .f32 a2 Qa2) := by rw [hnm, hQ]; exact hrr
  rw [← hnm]
  clear hnm hQ hrr qq u1 u3
  generalize hW : World.drewN _ _ = V5
  have F5 : Hid (FilB 31 V5 q ⟨b0, b1, b2, a1, a2⟩) := Lib.hid (by rw [← hW]; exact FilB.of (F5a.out.s4 _) rfl)
  have R5 : Hid (FilB 31 V5 w.heap.size ⟨0, 0, 0, 0, 0⟩) := Lib.hid (by rw [← hW]; exact FilB.of (w := w5.setCell ⟨q, 4, none⟩ (.float .f32 a2)) (R5a.out.of (off_own (by omega))) rfl)
  have O5 : Hid (On b w V5) := Lib.hid (by rw [← hW]; exact (O5a.out.own (by omega) hlt _ _).drewN _)
  have S5 : Hid (Src B b (K + 14 + 14 + 14 + 2 + 2) V5) := Lib.hid (by rw [← hW]; exact (S5a.out.own hqb _ _).drewN _)
  have zv : V5.heap.size = w5.heap.size := by rw [← hW]; exact Go.Deep.nblk_setCell _ _ _
  clear hW cc ff F5a R5a O5a S5a
  refine (one_any B b (K + 14 + 14 + 14 + 2 + 2) 4 V5 S5.out (by omega) (by omega)).mono ?_
  rintro e w6 ⟨c3, rfl, s, o⟩
  have zz : V5.heap.size ≤ w6.heap.size := o.1.size
  have F6 := Lib.hid (F5.out.on o (by omega)); have R6 := Lib.hid (R5.out.on o (by omega)); have O6 := Lib.hid (O5.out.trans o); have S6 := Lib.hid s
  clear s o F5 R5 O5 S5
  cases c3
  case' false =>
    go_wp2_with fail
    have F7 := F6; have R7 := R6; have O7 := O6; have S7 := Lib.hid (S6.out.up (K' := K + 14 + 14 + 14 + 2 + 2 + 2 + 14) (by omega))
    have zw : q < w6.heap.size := by omega
    clear F6 R6 O6 S6 zz
    obtain ⟨V7, hz1⟩ : ∃ v, v = w6 := ⟨_, rfl⟩; subst hz1
    obtain ⟨ya1, Ya1, hya1, F7⟩ : ∃ x X, Hid (Fv .f32 x X) ∧ Hid (FilB 31 V7 q ⟨b0, b1, b2, x, a2⟩) := ⟨_, _, ha1, F7⟩
  case' true =>
    go_wp2_with fail
    refine (drawNum_any B b (K + 14 + 14 + 14 + 2 + 2 + 2) w6 S6.out (by omega)).mono ?_
    rintro e w7 ⟨na1, Qn, rfl, hn, s, o⟩
    have zz2 : w6.heap.size ≤ w7.heap.size := o.1.size
    have Fa := Lib.hid (F6.out.on o (by omega)); have Ra := Lib.hid (R6.out.on o (by omega)); have Oa := Lib.hid (O6.out.trans o); have Sa := Lib.hid s
    clear s o F6 R6 O6 S6
    have cc := Fa.out.c3; have ff := Fa.out.free 3
    go_wp2_with fail
    generalize hW : World.setCell _ _ _ = V7
    have F7 : Hid (FilB 31 V7 q ⟨b0, b1, b2, na1, a2⟩) := Lib.hid (by rw [← hW]; exact Fa.out.s3 _)
    have R7 : Hid (FilB 31 V7 w.heap.size ⟨0, 0, 0, 0, 0⟩) := Lib.hid (by rw [← hW]; exact Ra.out.of (off_own (by omega)))
    have O7 : Hid (On b w V7) := Lib.hid (by rw [← hW]; exact Oa.out.own (by omega) hlt _ _)
    have S7 : Hid (Src B b (K + 14 + 14 + 14 + 2 + 2 + 2 + 14) V7) := Lib.hid (by rw [← hW]; exact Sa.out.own hqb _ _)
    have zv2 : V7.heap.size = w7.heap.size := by rw [← hW]; simp
    have zw : q < V7.heap.size := by omega
    clear hW cc ff Fa Ra Oa Sa zz2 zv2 zz
    obtain ⟨ya1, Ya1, hya1, F7⟩ : ∃ x X, Hid (Fv .f32 x X) ∧ Hid (FilB 31 V7 q ⟨b0, b1, b2, x, a2⟩) := ⟨_, _, hn, F7⟩
    clear hn
  all_goals
    refine (one_any B b (K + 14 + 14 + 14 + 2 + 2 + 2 + 14) 4 V7 S7.out (by omega) (by omega)).mono ?_
    rintro e w8 ⟨c4, rfl, s, o⟩
    have zz : V7.heap.size ≤ w8.heap.size := o.1.size
    have F8 := Lib.hid (F7.out.on o (by omega)); have R8 := Lib.hid (R7.out.on o (by omega)); have O8 := Lib.hid (O7.out.trans o); have S8 := Lib.hid s
    clear s o F7 R7 O7 S7
    cases c4
    case' false =>
      have c0 := F8.out.c0; have c1 := F8.out.c1; have c2 := F8.out.c2; have c3 := F8.out.c3; have c4 := F8.out.c4; have cf := F8.out.free 4
      have r0 := R8.out.c0; have r1 := R8.out.c1; have r2 := R8.out.c2; have r3 := R8.out.c3; have r4 := R8.out.c4
      have l0 := R8.out.free 0; have l1 := R8.out.free 1; have l2 := R8.out.free 2; have l3 := R8.out.free 3; have l4 := R8.out.free 4
      have NB := Lib.hid (R8.out.all b0 b1 b2 ya1 a2)
      have OO := Lib.hid (((((O8.out.own (Nat.le_refl _) hlt 0 (.float .f32 b0)).own (Nat.le_refl _) hlt 1 (.float .f32 b1)).own (Nat.le_refl _) hlt 2 (.float .f32 b2)).own (Nat.le_refl _) hlt 3 (.float .f32 ya1)).own (Nat.le_refl _) hlt 4 (.float .f32 a2))
      have SS := Lib.hid (((((S8.out.own hlt 0 (.float .f32 b0)).own hlt 1 (.float .f32 b1)).own hlt 2 (.float .f32 b2)).own hlt 3 (.float .f32 ya1)).own hlt 4 (.float .f32 a2))
      go_wp2_with fail
      generalize hV : World.setCell _ _ _ = V at *
      have g0 := NB.out.c0; have g1 := NB.out.c1; have g2 := NB.out.c2; have g3 := NB.out.c3; have g4 := NB.out.c4
      exact bodyPost_ret (v := .agg #[.float .f32 b0, .float .f32 b1, .float .f32 b2, .float .f32 ya1, .float .f32 a2]) (by simp [results, Try.results78, go_sem, g0, g1, g2, g3, g4]) rfl ⟨⟨b0, b1, b2, ya1, a2⟩, ⟨Q0, Qb1, Qb2, Ya1, Qa2⟩, rfl, ⟨h0, hb1, hb2, hya1, ha2⟩, SS.out.up (by omega), OO.out⟩
    case' true =>
      go_wp2_with fail
      refine (drawNum_any B b (K + 14 + 14 + 14 + 2 + 2 + 2 + 14 + 2) w8 S8.out (by omega)).mono ?_
      rintro e w9 ⟨na2, Qn, rfl, hn, s, o⟩
      have zz2 : w8.heap.size ≤ w9.heap.size := o.1.size
      have Fa := Lib.hid (F8.out.on o (by omega)); have Ra := Lib.hid (R8.out.on o (by omega)); have Oa := Lib.hid (O8.out.trans o); have Sa := Lib.hid s
      clear s o F8 R8 O8 S8
      have cc := Fa.out.c4; have ff := Fa.out.free 4
      rename (∀ (a : Act) (w : World), Code.wp Try.prog _ _ a w → _) => ak
      have AK := Lib.hid ak; clear ak
      go_wp2_with fail
      generalize hW : World.setCell _ _ _ = V9
      have F9 : Hid (FilB 31 V9 q ⟨b0, b1, b2, ya1, na2⟩) := Lib.hid (by rw [← hW]; exact Fa.out.s4 _)
      have R9 : Hid (FilB 31 V9 w.heap.size ⟨0, 0, 0, 0, 0⟩) := Lib.hid (by rw [← hW]; exact Ra.out.of (off_own (by omega)))
      have O9 : Hid (On b w V9) := Lib.hid (by rw [← hW]; exact Oa.out.own (by omega) hlt _ _)
      have S9 : Hid (Src B b (K + 14 + 14 + 14 + 2 + 2 + 2 + 14 + 2 + 14) V9) := Lib.hid (by rw [← hW]; exact Sa.out.own hqb _ _)
      clear hW cc ff Fa Ra Oa Sa zz2
      refine AK.out _ _ ?_
      have c0 := F9.out.c0; have c1 := F9.out.c1; have c2 := F9.out.c2; have c3 := F9.out.c3; have c4 := F9.out.c4; have cf := F9.out.free 4
      have r0 := R9.out.c0; have r1 := R9.out.c1; have r2 := R9.out.c2; have r3 := R9.out.c3; have r4 := R9.out.c4
      have l0 := R9.out.free 0; have l1 := R9.out.free 1; have l2 := R9.out.free 2; have l3 := R9.out.free 3; have l4 := R9.out.free 4
      have NB := Lib.hid (R9.out.all b0 b1 b2 ya1 na2)
      have OO := Lib.hid (((((O9.out.own (Nat.le_refl _) hlt 0 (.float .f32 b0)).own (Nat.le_refl _) hlt 1 (.float .f32 b1)).own (Nat.le_refl _) hlt 2 (.float .f32 b2)).own (Nat.le_refl _) hlt 3 (.float .f32 ya1)).own (Nat.le_refl _) hlt 4 (.float .f32 na2))
      have SS := Lib.hid (((((S9.out.own hlt 0 (.float .f32 b0)).own hlt 1 (.float .f32 b1)).own hlt 2 (.float .f32 b2)).own hlt 3 (.float .f32 ya1)).own hlt 4 (.float .f32 na2))
      go_wp2_with fail
      generalize hV : World.setCell _ _ _ = V at *
      have g0 := NB.out.c0; have g1 := NB.out.c1; have g2 := NB.out.c2; have g3 := NB.out.c3; have g4 := NB.out.c4
      exact bodyPost_ret (v := .agg #[.float .f32 b0, .float .f32 b1, .float .f32 b2, .float .f32 ya1, .float .f32 na2]) (by simp [results, Try.results78, go_sem, g0, g1, g2, g3, g4]) rfl ⟨⟨b0, b1, b2, ya1, na2⟩, ⟨Q0, Qb1, Qb2, Ya1, Qn⟩, rfl, ⟨h0, hb1, hb2, hya1, hn⟩, SS.out.up (by omega), OO.out⟩
end Go.Proofs.Ytebocaicebolaaa

/- Draws: memories; the draws of laws of filters. -/
set_option linter.unusedVariables false
set_option linter.unusedSimpArgs false
namespace Go.Proofs.Ytebocaicebolaaa
open Fl Go.RowKit
set_option maxHeartbeats 4000000 in
set_option maxRecDepth 100000 in
theorem drawMem_any (B b K : Nat) (w : World) (h : Src B b K w) (hK : K ≤ 500000) :
    Calls Try.prog 79 #[.pointer (some ⟨b, 0, none⟩)] w (PMem B b (K + 50) w) := by
  have HH := Lib.hid h
  have hlt := h.lt
  clear h
  go_enter Try.func79, Try.ntmps79
  go_wp2_with fail
  generalize hW : World.alloc w _ = W0
  have z0 : W0.heap.size = w.heap.size + 1 := by rw [← hW]; simp
  have R0 : Hid (MemB 28 W0 w.heap.size ⟨0, 0, 0, 0⟩) := Lib.hid (by rw [← hW]; exact MemB.new _ _ _ _ _ _)
  have O0 : Hid (On b w W0) := Lib.hid (by rw [← hW]; exact (On.refl _ _).alloc (by omega) _)
  have S0 : Hid (Src B b K W0) := Lib.hid (HH.out.on (by rw [← hW]; exact (World.Since.refl _ _).alloc (by omega) _))
  clear hW
  refine (one_any B b K 3 W0 S0.out (by omega) (by omega)).mono ?_
  rintro e w1 ⟨v, rfl, s1, o1⟩
  have z1 : W0.heap.size ≤ w1.heap.size := o1.1.size
  have R1 := Lib.hid (R0.out.on o1 (by omega)); have O1 := Lib.hid (O0.out.trans o1); have S1 := Lib.hid s1
  clear s1 o1 R0 O0 S0
  cases v
  case' true =>
    have r0 := R1.out.c0; have r1 := R1.out.c1; have r2 := R1.out.c2; have r3 := R1.out.c3
    have l0 := R1.out.free 0; have l1 := R1.out.free 1; have l2 := R1.out.free 2; have l3 := R1.out.free 3
    have NB := Lib.hid (R1.out.set 0 0 0 0)
    have OO := Lib.hid ((((O1.out.own (Nat.le_refl _) hlt 0 (.float .f32 0)).own (Nat.le_refl _) hlt 1 (.float .f32 0)).own (Nat.le_refl _) hlt 2 (.float .f32 0)).own (Nat.le_refl _) hlt 3 (.float .f32 0))
    have SS := Lib.hid ((((S1.out.own hlt 0 (.float .f32 0)).own hlt 1 (.float .f32 0)).own hlt 2 (.float .f32 0)).own hlt 3 (.float .f32 0))
    go_wp2_with fail
    generalize hV : World.setCell _ _ _ = V at *
    have g0 := NB.out.c0; have g1 := NB.out.c1; have g2 := NB.out.c2; have g3 := NB.out.c3
    exact bodyPost_ret (v := .agg #[.float .f32 0, .float .f32 0, .float .f32 0, .float .f32 0]) (by simp [results, Try.results79, go_sem, g0, g1, g2, g3]) rfl ⟨⟨0, 0, 0, 0⟩, noM, rfl, fvNo, SS.out.up (by omega), OO.out⟩
  go_wp2_with fail
  refine (float_any B b (K + 2) w1 S1.out (by omega)).mono ?_
  rintro e w2 ⟨a, Qa, rfl, ha, s, o⟩
  have z2 : w1.heap.size ≤ w2.heap.size := o.1.size
  have R1 := Lib.hid (R1.out.on o (by omega)); have O1 := Lib.hid (O1.out.trans o); have S1 := Lib.hid s
  clear s o
  go_wp2_with fail
  generalize hW : World.alloc w2 _ = W1
  obtain ⟨q, hq⟩ : ∃ q, q = w2.heap.size := ⟨_, rfl⟩
  rw [← hq]
  have y1 : W1.heap.size = q + 1 := by rw [← hW, hq]; simp
  have F1 : Hid (MemB 28 W1 q ⟨a, 0, 0, 0⟩) := Lib.hid (by rw [← hW, hq]; exact MemB.new _ _ _ _ _ _)
  have hs : w2.Since w2.heap.size W1 := by rw [← hW]; exact (World.Since.refl _ _).alloc (Nat.le_refl _) _
  have R2 := Lib.hid (R1.out.since hs (by omega)); have O2 := Lib.hid (on_post O1.out hs (by omega) hlt); have S2 := Lib.hid (S1.out.on (since_mono hs (by omega)))
  have hqb : b < q := by omega
  have hqr : w.heap.size < q := by omega
  clear hq
  clear hW hs R1 O1 S1
  refine (float_any B b (K + 2 + 12) W1 S2.out (by omega)).mono ?_
  rintro e w3 ⟨b', Qb, rfl, hb, s, o⟩
  have zz : W1.heap.size ≤ w3.heap.size := o.1.size
  have F3a := Lib.hid (F1.out.on o (by omega)); have R3a := Lib.hid (R2.out.on o (by omega)); have O3a := Lib.hid (O2.out.trans o); have S3a := Lib.hid s
  clear s o F1 R2 O2 S2
  have cc := F3a.out.c1; have ff := F3a.out.free 1
  go_wp2_with fail
  generalize hW : World.setCell _ _ _ = V3
  have F3 : Hid (MemB 28 V3 q ⟨a, b', 0, 0⟩) := Lib.hid (by rw [← hW]; exact F3a.out.t1 _)
  have R3 : Hid (MemB 28 V3 w.heap.size ⟨0, 0, 0, 0⟩) := Lib.hid (by rw [← hW]; exact R3a.out.of (off_own (by omega)))
  have O3 : Hid (On b w V3) := Lib.hid (by rw [← hW]; exact O3a.out.own (by omega) hlt _ _)
  have S3 : Hid (Src B b (K + 2 + 12 + 12) V3) := Lib.hid (by rw [← hW]; exact S3a.out.own hqb _ _)
  have zv : V3.heap.size = w3.heap.size := by rw [← hW]; simp
  clear hW cc ff F3a R3a O3a S3a
  refine (float_any B b (K + 2 + 12 + 12) V3 S3.out (by omega)).mono ?_
  rintro e w4 ⟨c, Qc, rfl, hc, s, o⟩
  have zz : V3.heap.size ≤ w4.heap.size := o.1.size
  have F4a := Lib.hid (F3.out.on o (by omega)); have R4a := Lib.hid (R3.out.on o (by omega)); have O4a := Lib.hid (O3.out.trans o); have S4a := Lib.hid s
  clear s o F3 R3 O3 S3
  have cc := F4a.out.c2; have ff := F4a.out.free 2
  go_wp2_with fail
  generalize hW : World.setCell _ _ _ = V4
  have F4 : Hid (MemB 28 V4 q ⟨a, b', c, 0⟩) := Lib.hid (by rw [← hW]; exact F4a.out.t2 _)
  have R4 : Hid (MemB 28 V4 w.heap.size ⟨0, 0, 0, 0⟩) := Lib.hid (by rw [← hW]; exact R4a.out.of (off_own (by omega)))
  have O4 : Hid (On b w V4) := Lib.hid (by rw [← hW]; exact O4a.out.own (by omega) hlt _ _)
  have S4 : Hid (Src B b (K + 2 + 12 + 12 + 12) V4) := Lib.hid (by rw [← hW]; exact S4a.out.own hqb _ _)
  have zv : V4.heap.size = w4.heap.size := by rw [← hW]; simp
  clear hW cc ff F4a R4a O4a S4a
  refine (float_any B b (K + 2 + 12 + 12 + 12) V4 S4.out (by omega)).mono ?_
  rintro e w5 ⟨d, Qd, rfl, hd, s, o⟩
  have zz : V4.heap.size ≤ w5.heap.size := o.1.size
  have F5a := Lib.hid (F4.out.on o (by omega)); have R5a := Lib.hid (R4.out.on o (by omega)); have O5a := Lib.hid (O4.out.trans o); have S5a := Lib.hid s
  clear s o F4 R4 O4 S4
  have cc := F5a.out.c3; have ff := F5a.out.free 3
  rename (∀ (a : Act) (w : World), Code.wp Try.prog _ _ a w → _) => ak
  have AK := Lib.hid ak; clear ak
  go_wp2_with fail
  generalize hW : World.setCell _ _ _ = V9
  have F9 : Hid (MemB 28 V9 q ⟨a, b', c, d⟩) := Lib.hid (by rw [← hW]; exact F5a.out.t3 _)
  have R9 : Hid (MemB 28 V9 w.heap.size ⟨0, 0, 0, 0⟩) := Lib.hid (by rw [← hW]; exact R5a.out.of (off_own (by omega)))
  have O9 : Hid (On b w V9) := Lib.hid (by rw [← hW]; exact O5a.out.own (by omega) hlt _ _)
  have S9 := Lib.hid (show Src B b (K + 2 + 12 + 12 + 12 + 12) V9 by rw [← hW]; exact S5a.out.own hqb _ _)
  clear hW cc ff F5a R5a O5a S5a
  refine AK.out _ _ ?_
  have r0 := R9.out.c0; have r1 := R9.out.c1; have r2 := R9.out.c2; have r3 := R9.out.c3
  have l0 := R9.out.free 0; have l1 := R9.out.free 1; have l2 := R9.out.free 2; have l3 := R9.out.free 3
  have k0 := F9.out.c0; have k1 := F9.out.c1; have k2 := F9.out.c2; have k3 := F9.out.c3
  have NB := Lib.hid (R9.out.set a b' c d)
  have OO := Lib.hid ((((O9.out.own (Nat.le_refl _) hlt 0 (.float .f32 a)).own (Nat.le_refl _) hlt 1 (.float .f32 b')).own (Nat.le_refl _) hlt 2 (.float .f32 c)).own (Nat.le_refl _) hlt 3 (.float .f32 d))
  have SS := Lib.hid ((((S9.out.own hlt 0 (.float .f32 a)).own hlt 1 (.float .f32 b')).own hlt 2 (.float .f32 c)).own hlt 3 (.float .f32 d))
  go_wp2_with fail
  generalize hV : World.setCell _ _ _ = V at *
  have g0 := NB.out.c0; have g1 := NB.out.c1; have g2 := NB.out.c2; have g3 := NB.out.c3
  exact bodyPost_ret (v := .agg #[.float .f32 a, .float .f32 b', .float .f32 c, .float .f32 d]) (by simp [results, Try.results79, go_sem, g0, g1, g2, g3]) rfl ⟨⟨a, b', c, d⟩, ⟨Qa, Qb, Qc, Qd⟩, rfl, ⟨ha, hb, hc, hd⟩, SS.out.up (by omega), OO.out⟩
theorem sinceSet {w a : World} (h : w.Since w.heap.size a) (o : Nat) (v : Value) : w.Since w.heap.size (a.setCell ⟨w.heap.size, o, none⟩ v) := h.setCell (Nat.le_refl _) _
set_option maxHeartbeats 4000000 in
set_option maxRecDepth 100000 in
theorem r8Filter_any (A : Option Addr) (n c : Nat) (xs : List Int) (w : World) (h : Bs w w.heap.size A n xs) (hn : n ≤ 1048576) :
    Calls Try.prog 40 #[.slice A n c] w (PFilW w) := by
  have HH := Lib.hid h; clear h
  go_enter Try.func40, Try.ntmps40
  go_wp2_with fail
  generalize hW : World.alloc w _ = W0
  have z0 : Hid (W0.heap.size = w.heap.size + 1) := Lib.hid (by rw [← hW]; simp)
  have R0 : Hid (FilB 31 W0 w.heap.size ⟨0, 0, 0, 0, 0⟩) := Lib.hid (by rw [← hW]; exact FilB.new _ _ _ _ _ _ _)
  have T0 : Hid (w.Since w.heap.size W0) := Lib.hid (by rw [← hW]; exact (World.Since.refl _ _).alloc (Nat.le_refl _) _)
  clear hW
  refine (source_any A n c xs W0 ((HH.out.since T0.out (Nat.le_refl _)).more (by have := z0.out; omega)) hn).mono ?_
  rintro e w1 ⟨rfl, s1, t1⟩
  have S1 := Lib.hid s1; have T1 := Lib.hid (since_step T0.out t1); have R1 := Lib.hid (R0.out.since t1 (by have := z0.out; omega)); clear s1 t1
  go_wp2_with fail
  refine (drawFil_any W0.heap.size W0.heap.size 0 w1 S1.out (by omega)).mono ?_
  rintro e w2 ⟨f, F, rfl, hF, s, o⟩
  have T2 := Lib.hid (T1.out.trans (o.since (lo := w.heap.size) (by have := z0.out; omega))); have R2 := Lib.hid (R1.out.on o (by have := z0.out; omega))
  clear s o
  unfold FilN.val
  have r0 := R2.out.c0; have r1 := R2.out.c1; have r2 := R2.out.c2; have r3 := R2.out.c3; have r4 := R2.out.c4
  have l0 := R2.out.free 0; have l1 := R2.out.free 1; have l2 := R2.out.free 2; have l3 := R2.out.free 3; have l4 := R2.out.free 4
  have NB := Lib.hid (R2.out.all f.b0 f.b1 f.b2 f.a1 f.a2)
  have SS := Lib.hid (sinceSet (sinceSet (sinceSet (sinceSet (sinceSet (T2.out) 0 (.float .f32 f.b0)) 1 (.float .f32 f.b1)) 2 (.float .f32 f.b2)) 3 (.float .f32 f.a1)) 4 (.float .f32 f.a2))
  go_wp2_with fail
  generalize hV : World.setCell _ _ _ = V at *
  have g0 := NB.out.c0; have g1 := NB.out.c1; have g2 := NB.out.c2; have g3 := NB.out.c3; have g4 := NB.out.c4
  exact bodyPost_ret (v := .agg #[.float .f32 f.b0, .float .f32 f.b1, .float .f32 f.b2, .float .f32 f.a1, .float .f32 f.a2]) (by simp [results, Try.results40, go_sem, g0, g1, g2, g3, g4]) rfl ⟨f, F, rfl, hF, SS.out⟩
set_option maxHeartbeats 4000000 in
set_option maxRecDepth 100000 in
theorem r8Memory_any (A : Option Addr) (n c : Nat) (xs : List Int) (w : World) (h : Bs w w.heap.size A n xs) (hn : n ≤ 1048576) :
    Calls Try.prog 41 #[.slice A n c] w (PMemW w) := by
  have HH := Lib.hid h; clear h
  go_enter Try.func41, Try.ntmps41
  go_wp2_with fail
  generalize hW : World.alloc w _ = W0
  have z0 : Hid (W0.heap.size = w.heap.size + 1) := Lib.hid (by rw [← hW]; simp)
  have R0 : Hid (MemB 28 W0 w.heap.size ⟨0, 0, 0, 0⟩) := Lib.hid (by rw [← hW]; exact MemB.new _ _ _ _ _ _)
  have T0 : Hid (w.Since w.heap.size W0) := Lib.hid (by rw [← hW]; exact (World.Since.refl _ _).alloc (Nat.le_refl _) _)
  clear hW
  refine (source_any A n c xs W0 ((HH.out.since T0.out (Nat.le_refl _)).more (by have := z0.out; omega)) hn).mono ?_
  rintro e w1 ⟨rfl, s1, t1⟩
  have S1 := Lib.hid s1; have T1 := Lib.hid (since_step T0.out t1); have R1 := Lib.hid (R0.out.since t1 (by have := z0.out; omega)); clear s1 t1
  go_wp2_with fail
  refine (drawMem_any W0.heap.size W0.heap.size 0 w1 S1.out (by omega)).mono ?_
  rintro e w2 ⟨f, F, rfl, hF, s, o⟩
  have T2 := Lib.hid (T1.out.trans (o.since (lo := w.heap.size) (by have := z0.out; omega))); have R2 := Lib.hid (R1.out.on o (by have := z0.out; omega))
  clear s o
  unfold MemN.val
  have r0 := R2.out.c0; have r1 := R2.out.c1; have r2 := R2.out.c2; have r3 := R2.out.c3
  have l0 := R2.out.free 0; have l1 := R2.out.free 1; have l2 := R2.out.free 2; have l3 := R2.out.free 3
  have NB := Lib.hid (R2.out.set f.a f.b f.c f.d)
  have SS := Lib.hid (sinceSet (sinceSet (sinceSet (sinceSet (T2.out) 0 (.float .f32 f.a)) 1 (.float .f32 f.b)) 2 (.float .f32 f.c)) 3 (.float .f32 f.d))
  go_wp2_with fail
  generalize hV : World.setCell _ _ _ = V at *
  have g0 := NB.out.c0; have g1 := NB.out.c1; have g2 := NB.out.c2; have g3 := NB.out.c3
  exact bodyPost_ret (v := .agg #[.float .f32 f.a, .float .f32 f.b, .float .f32 f.c, .float .f32 f.d]) (by simp [results, Try.results41, go_sem, g0, g1, g2, g3]) rfl ⟨f, F, rfl, hF, SS.out⟩
end Go.Proofs.Ytebocaicebolaaa

/- What is known of a slot: lists of numbers, boxes. -/
set_option linter.unusedVariables false
set_option linter.unusedSimpArgs false
namespace Go.Proofs.Ytebocaicebolaaa
open Fl Go.RowKit
namespace Lk
/-- an entry among these blocks, behind lo -/
def EnK (lo : Nat) (e : En) (S : Fp) (w : World) : Prop := e.P w ∧ (∀ w w' : World, (∀ g, e.S g → w'.heap[g]? = w.heap[g]?) → e.P w → e.P w') ∧ (∀ k, e.S k → S k) ∧ ∀ k, e.S k → lo ≤ k
theorem EnK.keep {lo : Nat} {e : En} {S : Fp} {w w' : World} (h : EnK lo e S w) (hs : ∀ g, S g → w'.heap[g]? = w.heap[g]?) : EnK lo e S w' := ⟨h.2.1 w w' (fun g hg => hs g (h.2.2.1 g hg)) h.1, h.2⟩
theorem EnK.of {lo B : Nat} {e : En} {w : World} (h : Ge B w e) (hl : lo ≤ B) : EnK lo e e.S w := ⟨h.1, h.2.1, fun _ h => h, fun k hk => Nat.le_trans hl (h.2.2 k hk).1⟩
theorem EnK.ge {lo : Nat} {e : En} {S : Fp} {w : World} (h : EnK lo e S w) (hb : ∀ g, S g → g < w.heap.size) : Ge lo w e := ⟨h.1, h.2.1, fun g hg => ⟨h.2.2.2 g hg, hb g (h.2.2.1 g hg)⟩⟩
theorem EnK.readF {lo n : Nat} {A : Option Addr} {xs : List Nat} {S : Fp} {w : World} (h : EnK lo (fe A n xs) S w) : Fs w w.heap.size A n xs :=
  ⟨h.1.1.1, h.1.1.2, fun hn => by
    obtain ⟨g, off, cs, e, hb, hc⟩ := h.1.2 hn
    refine ⟨g, off, e, (Array.getElem?_eq_some_iff.1 hb).1, fun k hk => ?_⟩
    simp only [World.cell?, hb]
    simpa using hc k hk⟩
/-- a copy of numbers -/
def xK (lo n : Nat) (xs : List Nat) : Kd where
  p := fun u S w => ∃ B : Nat, u = .slice (some ⟨B, 0, none⟩) n n ∧ EnK lo (fe (some ⟨B, 0, none⟩) n xs) S w
  stable := fun u S w w' h hp => by
    obtain ⟨B, e, hb⟩ := hp
    exact ⟨B, e, hb.keep h⟩
  bx := false
/-- a list of numbers -/
def feK (lo n0 : Nat) (f0 : Nat → O) : Kd where
  p := fun u S w => ∃ (p : Ls) (c : Nat), u = .slice p.A p.n c ∧ p.n = n0 ∧ Are p f0 ∧ EnK lo (fe p.A p.n p.xs) S w
  stable := fun u S w w' h hp => by
    obtain ⟨p, c, e, h1, h2, hb⟩ := hp
    exact ⟨p, c, e, h1, h2, hb.keep h⟩
  bx := false
theorem box_ge {T : TypeId} {Pc : List Value → Prop} {u : Value} {S : Fp} {w : World} {lo : Nat} (h : (bxK T Pc).p u S w) (hb : ∀ g, S g → g < w.heap.size) (hl : ∀ g, S g → lo ≤ g) : ∃ g cs, u = .pointer (some ⟨g, 0, none⟩) ∧ Pc cs ∧ (∀ k, S k ↔ k = g) ∧ Ge lo w (bxv T g cs) := by
  obtain ⟨g, cs, e, hS, hh, hc⟩ := h
  exact ⟨g, cs, e, hc, hS, hh, fun w w' h hp => (h g rfl).trans hp, fun k hk => by
    have hk' : k = g := hk
    subst hk'
    exact ⟨hl k ((hS k).2 rfl), hb k ((hS k).2 rfl)⟩⟩
theorem box_de {T : TypeId} {g : Nat} {cs : List Value} {S S' : Fp} {e : En} {lo : Nat} {w : World} (hS : ∀ k, S k ↔ k = g) (hd : ∀ k, S k → ¬ S' k) (h : EnK lo e S' w) : De (bxv T g cs) e := fun k hk he => hd k ((hS k).2 hk) (h.2.2.1 k he)
end Lk
end Go.Proofs.Ytebocaicebolaaa

/- What is known of a slot: a memory; a list, a memory and a yes or no. -/
set_option linter.unusedVariables false
set_option linter.unusedSimpArgs false
namespace Go.Proofs.Ytebocaicebolaaa
open Fl Go.RowKit
namespace Lk
def mK (M : Mem) : Kd where
  p := fun u S w => ∃ m : MemN, u = .agg #[.float .f32 m.a, .float .f32 m.b, .float .f32 m.c, .float .f32 m.d] ∧ FvM m M
  stable := fun u S w w' h hp => hp
  bx := false
def plmK (lo n0 : Nat) (f0 : Nat → O) (M : Mem) (b : Bool) : Kd where
  p := fun u S w => ∃ (p : Ls) (c : Nat) (m : MemN), u = .tuple #[.slice p.A p.n c, .agg #[.float .f32 m.a, .float .f32 m.b, .float .f32 m.c, .float .f32 m.d], .bool b] ∧ p.n = n0 ∧ Are p f0 ∧ FvM m M ∧ EnK lo (fe p.A p.n p.xs) S w
  stable := fun u S w w' h hp => by
    obtain ⟨p, c, m, e, h1, h2, h3, hb⟩ := hp
    exact ⟨p, c, m, e, h1, h2, h3, hb.keep h⟩
  bx := false
/-- a memory's cells -/
def isMem (M : Mem) (cs : List Value) : Prop := ∃ a b c d : Nat, cs = [a, b, c, d].map (fun x => Value.float .f32 x) ∧ FvM ⟨a, b, c, d⟩ M
theorem plm_of {lo n0 : Nat} {f0 : Nat → O} {M : Mem} {b : Bool} {w w' : World} {e : Ending} (hl : lo ≤ w.heap.size) (h : PLMB n0 f0 M b w e w') : ∃ u S, e = .returned u ∧ nb u ∧ (plmK lo n0 f0 M b).p u S w' ∧ w.Since w.heap.size w' ∧ ∀ g, S g → w.heap.size ≤ g ∧ g < w'.heap.size := by
  obtain ⟨p, c, m, rfl, h1, h2, h3, h4, h5⟩ := h
  have hg := h2.toE
  exact ⟨_, (fe p.A p.n p.xs).S, rfl, trivial, ⟨p, c, m, rfl, h1, h3, h4, EnK.of hg hl⟩, h5, hg.2.2⟩
end Lk
end Go.Proofs.Ytebocaicebolaaa

/- SameMemory, walked. -/
set_option linter.unusedVariables false
set_option linter.unusedSimpArgs false
namespace Go.Proofs.Ytebocaicebolaaa
open Fl Go.RowKit
def sameB (a b : Nat) : Bool := decide (bitsO (ab .f32 a) = bitsO (ab .f32 b))
set_option maxHeartbeats 4000000 in
set_option maxRecDepth 100000 in
theorem singles_any (m : MemN) (w : World) (hm : FvM m (ofM m)) :
    Calls Try.prog 82 #[m.val] w fun e w' => e = .returned (.agg #[.int .u32 (singleN m.a : Nat), .int .u32 (singleN m.b : Nat), .int .u32 (singleN m.c : Nat), .int .u32 (singleN m.d : Nat)]) ∧ w.Since w.heap.size w' := by
  obtain ⟨ra, rb, rc, rd⟩ := m
  have l0 : ra < 4294967296 := hm.a.out.1
  have l1 : rb < 4294967296 := hm.b.out.1
  have l2 : rc < 4294967296 := hm.c.out.1
  have l3 : rd < 4294967296 := hm.d.out.1
  clear hm
  unfold MemN.val
  have i0 : ∀ w, (Instr.index 93 (.agg #[.float .f32 ra, .float .f32 rb, .float .f32 rc, .float .f32 rd]) (.int .i64 0)).run Try.prog w = .ok (.float .f32 ra) w := fun _ => by kernel_rfl
  have i1 : ∀ w, (Instr.index 93 (.agg #[.float .f32 ra, .float .f32 rb, .float .f32 rc, .float .f32 rd]) (.int .i64 1)).run Try.prog w = .ok (.float .f32 rb) w := fun _ => by kernel_rfl
  have i2 : ∀ w, (Instr.index 93 (.agg #[.float .f32 ra, .float .f32 rb, .float .f32 rc, .float .f32 rd]) (.int .i64 2)).run Try.prog w = .ok (.float .f32 rc) w := fun _ => by kernel_rfl
  have i3 : ∀ w, (Instr.index 93 (.agg #[.float .f32 ra, .float .f32 rb, .float .f32 rc, .float .f32 rd]) (.int .i64 3)).run Try.prog w = .ok (.float .f32 rd) w := fun _ => by kernel_rfl
  go_enter Try.func82, Try.ntmps82
  go_wp2
  refine wp_loop_rounds 5 ?_
  iterate 5 (rw [rounds_succ]; go_wp2_with (first | (go_at_call 83; refine (patternOf_any _ _).mono ?_; rintro e w' ⟨rfl, rfl⟩) | (go_at_call 84; refine (single_any _ _ (by assumption)).mono ?_; rintro e w' ⟨rfl, rfl⟩)))
  exact bodyPost_ret (v := .agg #[.int .u32 (singleN ra : Nat), .int .u32 (singleN rb : Nat), .int .u32 (singleN rc : Nat), .int .u32 (singleN rd : Nat)]) (by simp [results, Try.results82, go_sem]) rfl ⟨rfl, by (repeat (first | (with_reducible refine Fl.sinDrew ?_) | (with_reducible refine World.Since.drew ?_) | (with_reducible refine Fl.sinSet ?_ ?_; rotate_left) | (with_reducible refine Fl.sinAlloc ?_ ?_; rotate_left) | with_reducible exact World.Since.refl _ _ | with_reducible assumption | (with_reducible refine Fl.sinStep (by with_reducible assumption) ?_))); all_goals (first | omega | (simp; done) | (simp; omega) | (simp [go_sem]; done) | (simp [go_sem]; omega))⟩

theorem sameInt (a b : Nat) : ((singleN a : Int) == (singleN b : Int)) = sameB a b := by
  unfold sameB
  rw [← single_bits, ← single_bits, Bool.eq_iff_iff]
  simp
  omega
@[go_sem] theorem Try.eq4 (a b c d a2 b2 c2 d2 : Int) (w : World) : (Op.equalIn 10000 115 (.agg #[.int .u32 a, .int .u32 b, .int .u32 c, .int .u32 d]) (.agg #[.int .u32 a2, .int .u32 b2, .int .u32 c2, .int .u32 d2])).run Try.prog w = .ok (a == a2 && b == b2 && c == c2 && d == d2) w := by
  have u3 := Try.underlying114
  have a3 := Try.isAgg114
  have z3 := Try.sizeOf114
  rw [show (10000 : Nat) = 9999 + 1 from rfl, Op.equalIn]
  simp only [Sem.run_bind, run_underlying Try.underlying115, Result.andThen_ok]
  simp only [Std.Legacy.Range.forIn_eq_forIn_range', Std.Legacy.Range.size, Nat.sub_zero, Nat.add_sub_cancel, Nat.div_one, List.range'_succ, List.range'_zero, List.forIn_cons, List.forIn_nil]
  go_simp
  by_cases h1 : a = a2 <;> by_cases h2 : b = b2 <;> by_cases h3 : c = c2 <;> by_cases h4 : d = d2 <;> simp [h1, h2, h3, h4]

set_option maxHeartbeats 8000000 in
set_option maxRecDepth 100000 in
theorem implSM_any (m n : MemN) (w : World) (hm : FvM m (ofM m)) (hn : FvM n (ofM n)) (c0 c1 c2 c3 : Bool) (h0 : sameB m.a n.a = c0) (h1 : sameB m.b n.b = c1) (h2 : sameB m.c n.c = c2) (h3 : sameB m.d n.d = c3) :
    Calls Try.prog 45 #[m.val, n.val] w fun e w' => e = .returned (.bool (c0 && c1 && c2 && c3)) ∧ w.Since w.heap.size w' := by
  have hcm := cellsOf_any m
  have hcn := cellsOf_any n
  have hsm := fun w => singles_any m w hm
  have hsn := fun w => singles_any n w hn
  obtain ⟨ma, mb, mc, md⟩ := m
  obtain ⟨na, nb, nc, nd⟩ := n
  simp only at h0 h1 h2 h3
  unfold MemN.val at *
  have H0 := Lib.hid h0; have H1 := Lib.hid h1; have H2 := Lib.hid h2; have H3 := Lib.hid h3
  have CM := Lib.hid hcm; have CN := Lib.hid hcn; have SM := Lib.hid hsm; have SN := Lib.hid hsn
  clear h0 h1 h2 h3 hcm hcn hsm hsn hm hn
  go_enter Try.func45, Try.ntmps45
  go_wp2
  go_region_with (first | (go_at_call_of 73 (Value.float .f32 ma); ((with_reducible refine (CM.out _).mono ?_); rintro e w1 ⟨rfl, hs⟩; (try replace hs := sinUD hs); (try have y10 : w.heap.size < w1.heap.size := (by have hsz := hs.size; (try simp only [World.drew, World.drewN, Go.Deep.nblk_alloc, Go.Deep.nblk_setCell] at hsz); omega)); (try have y11 : w.heap.size + 1 < w1.heap.size := (by have hsz := hs.size; (try simp only [World.drew, World.drewN, Go.Deep.nblk_alloc, Go.Deep.nblk_setCell] at hsz); omega)); (try have v1 : w.heap.size ≤ w1.heap.size := (by have hsz := hs.size; (try simp only [World.drew, World.drewN, Go.Deep.nblk_alloc, Go.Deep.nblk_setCell] at hsz); omega)); obtain ⟨hc1, hf1⟩ := Fl.sinCell hs; have S1 := Lib.hid hs; clear hs)) | (go_at_call_of 82 (Value.float .f32 ma); ((with_reducible refine (SM.out _).mono ?_); rintro e w2 ⟨rfl, hs⟩; (try replace hs := sinUD hs); (try have y20 : w.heap.size < w2.heap.size := (by have hsz := hs.size; (try simp only [World.drew, World.drewN, Go.Deep.nblk_alloc, Go.Deep.nblk_setCell] at hsz); omega)); (try have y21 : w.heap.size + 1 < w2.heap.size := (by have hsz := hs.size; (try simp only [World.drew, World.drewN, Go.Deep.nblk_alloc, Go.Deep.nblk_setCell] at hsz); omega)); (try have v2 : w.heap.size ≤ w2.heap.size := (by have hsz := hs.size; (try simp only [World.drew, World.drewN, Go.Deep.nblk_alloc, Go.Deep.nblk_setCell] at hsz); omega)); obtain ⟨hc2, hf2⟩ := Fl.sinCell hs; have S2 := Lib.hid hs; clear hs)) | (go_at_call_of 73 (Value.float .f32 na); ((with_reducible refine (CN.out _).mono ?_); rintro e w3 ⟨rfl, hs⟩; (try replace hs := sinUD hs); (try have y30 : w.heap.size < w3.heap.size := (by have hsz := hs.size; (try simp only [World.drew, World.drewN, Go.Deep.nblk_alloc, Go.Deep.nblk_setCell] at hsz); omega)); (try have y31 : w.heap.size + 1 < w3.heap.size := (by have hsz := hs.size; (try simp only [World.drew, World.drewN, Go.Deep.nblk_alloc, Go.Deep.nblk_setCell] at hsz); omega)); (try have v3 : w.heap.size ≤ w3.heap.size := (by have hsz := hs.size; (try simp only [World.drew, World.drewN, Go.Deep.nblk_alloc, Go.Deep.nblk_setCell] at hsz); omega)); obtain ⟨hc3, hf3⟩ := Fl.sinCell hs; have S3 := Lib.hid hs; clear hs)) | (go_at_call_of 82 (Value.float .f32 na); ((with_reducible refine (SN.out _).mono ?_); rintro e w4 ⟨rfl, hs⟩; (try replace hs := sinUD hs); (try have y40 : w.heap.size < w4.heap.size := (by have hsz := hs.size; (try simp only [World.drew, World.drewN, Go.Deep.nblk_alloc, Go.Deep.nblk_setCell] at hsz); omega)); (try have y41 : w.heap.size + 1 < w4.heap.size := (by have hsz := hs.size; (try simp only [World.drew, World.drewN, Go.Deep.nblk_alloc, Go.Deep.nblk_setCell] at hsz); omega)); (try have v4 : w.heap.size ≤ w4.heap.size := (by have hsz := hs.size; (try simp only [World.drew, World.drewN, Go.Deep.nblk_alloc, Go.Deep.nblk_setCell] at hsz); omega)); obtain ⟨hc4, hf4⟩ := Fl.sinCell hs; have S4 := Lib.hid hs; clear hs)))
  all_goals
    go_wp2
    go_ret
    exact ⟨ret_bool (by rw [sameInt, sameInt, sameInt, sameInt, H0.out, H1.out, H2.out, H3.out]), by (repeat (first | (with_reducible refine Fl.sinDrew ?_) | (with_reducible refine World.Since.drew ?_) | (with_reducible refine Fl.sinSet ?_ ?_; rotate_left) | (with_reducible refine Fl.sinAlloc ?_ ?_; rotate_left) | with_reducible exact World.Since.refl _ _ | with_reducible assumption | (with_reducible refine Fl.sinStep (by with_reducible assumption) ?_))); all_goals (first | omega | (simp; done) | (simp; omega) | (simp [go_sem]; done) | (simp [go_sem]; omega))⟩
end Go.Proofs.Ytebocaicebolaaa

/- Draws: the gate as a list of its own, blocks of it, and when it is open. -/
set_option linter.unusedVariables false
set_option linter.unusedSimpArgs false
namespace Go.Proofs.Ytebocaicebolaaa
open Fl Go.RowKit
/-- a list of numbers in a block of its own, with the places behind it -/
def PLIBo (n : Nat) (f : Nat → O) (i : Int) (b : Bool) (w : World) (e : Ending) (w' : World) : Prop :=
  ∃ (g c : Nat) (xs : List Nat), e = .returned (.tuple #[.slice (some ⟨g, 0, none⟩) n c, .int .i64 i, .bool b]) ∧ n ≤ c ∧ Gs 22 w' w.heap.size (some ⟨g, 0, none⟩) n xs ∧ Are ⟨some ⟨g, 0, none⟩, n, xs⟩ f ∧ w.Since w.heap.size w'
/-! blocks -/
theorem gateH_cut (X : Nat → O) (T : O) (hold held : Int) (a : Nat) : ∀ k, gateH (fun j => X (a + j)) T hold (gateH X T hold held a) k = gateH X T hold held (a + k)
  | 0 => rfl
  | k + 1 => by
    show (if geO (sizeO (X (a + k))) T then hold else _) = (if geO (sizeO (X (a + k))) T then hold else _)
    rw [gateH_cut X T hold held a k]
    rfl
theorem gateY_cut (X : Nat → O) (T : O) (hold held : Int) (a k : Nat) : gateY (fun j => X (a + j)) T hold (gateH X T hold held a) k = gateY X T hold held (a + k) := by
  unfold gateY
  rw [gateH_cut]
theorem gateH_like {X Y : Nat → O} {T : O} {hold held : Int} {n : Nat} (h : ∀ k, k < n → X k = Y k) : ∀ k, k ≤ n → gateH X T hold held k = gateH Y T hold held k
  | 0, _ => rfl
  | k + 1, hk => by
    unfold gateH
    rw [gateH_like h k (by omega), h k (by omega)]
theorem gateY_like {X Y : Nat → O} {T : O} {hold held : Int} {n : Nat} (h : ∀ k, k < n → X k = Y k) (k : Nat) (hk : k < n) : gateY X T hold held k = gateY Y T hold held k := by
  unfold gateY
  rw [gateH_like h k (by omega), h k hk]
/-! when it is open -/
/-- the last loud place before k -/
def lastO (X : Nat → O) (T : O) : Nat → Int
  | 0 => -1
  | k + 1 => if geO (sizeO (X k)) T then (k : Int) else lastO X T k
theorem lastO_in (X : Nat → O) (T : O) : ∀ k, -1 ≤ lastO X T k ∧ lastO X T k < (k : Int)
  | 0 => by unfold lastO; omega
  | k + 1 => by
    have := lastO_in X T k
    unfold lastO
    split <;> omega
theorem gateH_last (X : Nat → O) (T : O) (hold : Int) (h0 : 0 ≤ hold) : ∀ k, gateH X T hold 0 k = if 0 ≤ lastO X T k ∧ (k : Int) - 1 - lastO X T k ≤ hold then hold - ((k : Int) - 1 - lastO X T k) else 0
  | 0 => by unfold gateH lastO; simp
  | k + 1 => by
    have ih := gateH_last X T hold h0 k
    have hi := lastO_in X T k
    unfold gateH lastO
    by_cases h : geO (sizeO (X k)) T = true
    · rw [if_pos h, if_pos h, if_pos (by omega)]; omega
    · rw [if_neg h, if_neg h, ih]
      by_cases h1 : 0 ≤ lastO X T k ∧ (k : Int) - 1 - lastO X T k ≤ hold
      · rw [if_pos h1]
        by_cases h2 : 0 < hold - ((k : Int) - 1 - lastO X T k)
        · rw [if_pos h2, if_pos (by omega)]; omega
        · rw [if_neg h2, if_neg (by omega)]; omega
      · rw [if_neg h1, if_neg (by omega), if_neg (by omega)]
theorem gateY_open (X : Nat → O) (T : O) (hold : Int) (h0 : 0 ≤ hold) (k : Nat) : gateY X T hold 0 k = if 0 ≤ lastO X T (k + 1) ∧ (k : Int) - lastO X T (k + 1) ≤ hold then X k else some 0 := by
  have hH := gateH_last X T hold h0 k
  have hi := lastO_in X T k
  unfold gateY lastO
  by_cases h : geO (sizeO (X k)) T = true
  · rw [if_pos h, if_pos h, if_pos (by omega)]
  · rw [if_neg h, if_neg h, hH]
    by_cases h1 : 0 ≤ lastO X T k ∧ (k : Int) - lastO X T k ≤ hold
    · rw [if_pos h1, if_pos (by rw [if_pos (by omega)]; omega)]
    · rw [if_neg h1, if_neg]
      split <;> omega
/-! the greater one of a number and its opposite -/
theorem neg32 (b : Nat) (h : b < 4294967296) : Op.negFloat .f32 b = if b < 2147483648 then b + 2147483648 else b - 2147483648 := by
  have e2 := neg_mod .f32 b
  rw [sw32] at e2
  unfold Op.negFloat at e2 ⊢
  have e3 : (b ^^^ (2 ^ (FloatKind.f32.format.exponentBits + FloatKind.f32.format.fractionBits))) / 2147483648 = (b / 2147483648) ^^^ 1 := by
    rw [show (2 : Nat) ^ (FloatKind.f32.format.exponentBits + FloatKind.f32.format.fractionBits) = 2 ^ 31 by decide, show (2147483648 : Nat) = 2 ^ 31 by decide, ← Nat.shiftRight_eq_div_pow, Nat.shiftRight_xor_distrib, Nat.shiftRight_eq_div_pow, Nat.shiftRight_eq_div_pow]
  by_cases hb : b < 2147483648
  · rw [show b / 2147483648 = 0 by omega] at e3
    rw [if_pos hb]
    have : (0 ^^^ 1 : Nat) = 1 := by decide
    omega
  · rw [show b / 2147483648 = 1 by omega] at e3
    rw [if_neg hb]
    have : (1 ^^^ 1 : Nat) = 0 := by decide
    omega
theorem ge_key {x t : Nat} (hx : ab .f32 x = some x) (ht : ab .f32 t = some t) : geO (some x) (some t) = decide (key .f32 t ≤ key .f32 x) := by
  unfold geO gtO eqO ordO
  show ((FloatKind.f32.format.order x t == some .gt) || (FloatKind.f32.format.order x t == some .eq)) = _
  rw [order_key .f32 hx ht, cmp_def]
  rcases Int.lt_trichotomy (key .f32 x) (key .f32 t) with h | h | h
  · rw [if_pos h, decide_eq_false (by omega)]; rfl
  · rw [if_neg (by omega), if_pos h, decide_eq_true (by omega)]; rfl
  · rw [if_neg (by omega), if_neg (by omega), decide_eq_true (by omega)]; rfl
theorem ge_none (X : O) : geO X none = false := by cases X <;> rfl
theorem ge_size (x : Nat) (hx : x < 4294967296) (T : O) (t : Nat) (ht : Fv .f32 t T) : geO (sizeO (ab .f32 x)) T = (geO (ab .f32 x) T || geO (ab .f32 (Op.negFloat .f32 x)) T) := by
  obtain ⟨ht1, ht2⟩ := ht
  subst ht2
  have ht1' : t < 4294967296 := ht1
  have hm := neg_mod .f32 x
  rw [sw32] at hm
  rw [ab32 t]
  split
  · rw [ge_none, ge_none, ge_none]; rfl
  · next h1 =>
    rw [ab32 x, ab32 (Op.negFloat .f32 x), hm]
    by_cases h2 : 2139095040 < x % 2147483648
    · rw [if_pos h2, if_pos h2]; rfl
    · rw [if_neg h2, if_neg h2]
      have a1 : ab .f32 t = some t := by rw [ab32, if_neg h1]
      have a2 : ab .f32 x = some x := by rw [ab32, if_neg h2]
      have a3 : ab .f32 (Op.negFloat .f32 x) = some (Op.negFloat .f32 x) := by rw [ab32, hm, if_neg h2]
      have a4 : ab .f32 (sizeN x) = some (sizeN x) := by unfold sizeN; rw [ab32, Nat.mod_mod, if_neg h2]
      show geO (some (sizeN x)) (some t) = _
      rw [ge_key a4 a1, ge_key a2 a1, ge_key a3 a1]
      have hn := neg32 x hx
      have l3 : Op.negFloat .f32 x < 4294967296 := neg_lt .f32 hx
      have l4 : sizeN x < 4294967296 := sizeN_lt x
      rw [key32 _ l4, key32 _ hx, key32 _ l3, hn]
      unfold sizeN
      rw [← Bool.decide_or]
      congr 1
      by_cases hb : x < 2147483648
      · rw [if_pos (by omega), if_pos hb, if_pos hb, if_neg (by omega)]
        apply propext; constructor
        · intro h; left; omega
        · intro h; omega
      · rw [if_pos (by omega), if_neg hb, if_neg hb, if_pos (by omega)]
        apply propext; constructor
        · intro h; right; omega
        · intro h; omega
end Go.Proofs.Ytebocaicebolaaa

/- The law of gates. -/
set_option linter.unusedVariables false
set_option linter.unusedSimpArgs false
namespace Go.Proofs.Ytebocaicebolaaa
open Fl Go.RowKit
theorem Fs.head {w : World} {B n m : Nat} {A : Option Addr} {xs : List Nat} (h : Fs w B A n xs) (hm : m ≤ n) : Fs w B A m (xs.take m) :=
  ⟨by rw [List.length_take, h.1]; omega, fun x hx => h.2.1 x (List.mem_of_mem_take hx), fun h0 => by
    obtain ⟨g, off, e, hg, hc⟩ := h.2.2 (by omega)
    refine ⟨g, off, e, hg, fun k hk => ?_⟩
    rw [hc k (by omega)]
    unfold fv wd
    simp [List.getD_eq_getElem?_getD, List.getElem?_take, hk]⟩
theorem wd_take (xs : List Nat) (m k : Nat) (h : k < m) : wd (xs.take m) k = wd xs k := by unfold wd; simp [List.getD_eq_getElem?_getD, List.getElem?_take, h]
theorem Fs.tail0 {w : World} {B n m : Nat} {g : Nat} {xs : List Nat} (h : Fs w B (some ⟨g, 0, none⟩) n xs) (hm : m ≤ n) : Fs w B (some ⟨g, m, none⟩) (n - m) (xs.drop m) := by
  have h1 := Fs.tail (n := m) (m := n - m) (g := g) (off := 0) (w := w) (B := B) (xs := xs) (by rw [show m + (n - m) = n by omega]; exact h)
  rwa [Nat.zero_add] at h1
theorem Fs.cell0 {w : World} {B n g k : Nat} {xs : List Nat} (h : Fs w B (some ⟨g, 0, none⟩) n xs) (hk : k < n) : w.cell? ⟨g, k, none⟩ = some (.float .f32 (wd xs k)) ∧ g < B := by
  obtain ⟨g', off, e, hg, hc⟩ := h.2.2 (by omega)
  injection e with e
  injection e with e1 e2 _
  subst e1; subst e2
  have := hc k hk
  rw [Nat.zero_add] at this
  exact ⟨this, hg⟩
/-- an operation whose guard says yes, as one without a guard -/
theorem wpList_yes {ops : Array Oper} {rest : List Oper} {o : Oper} {a : Act} {Q : Exit → Act → World → Prop} {w : World} (hw : Region.wanted o (yielded ops a.tmps) = true)
    (h : wpList Try.prog ops Q ({ o with guard := none } :: rest) a w) : wpList Try.prog ops Q (o :: rest) a w := by
  unfold wpList at h ⊢
  rw [if_pos hw]
  rw [if_pos (by rfl)] at h
  exact h
end Go.Proofs.Ytebocaicebolaaa

/- Filters: what is known of slots, and the law of blocks. -/
set_option linter.unusedVariables false
set_option linter.unusedSimpArgs false
namespace Go.Proofs.Ytebocaicebolaaa
open Fl Go.RowKit
namespace Lk
def ownA (p : Ls) (c n0 : Nat) : Prop := (p.A = none → n0 = 0 ∧ c = 0) ∧ ∀ a, p.A = some a → ∃ g, a = ⟨g, 0, none⟩
def ploK (lo n0 : Nat) (f0 : Nat → O) (M : Mem) (b : Bool) : Kd where
  p := fun u S w => ∃ (p : Ls) (c : Nat) (m : MemN), u = .tuple #[.slice p.A p.n c, .agg #[.float .f32 m.a, .float .f32 m.b, .float .f32 m.c, .float .f32 m.d], .bool b] ∧ p.n = n0 ∧ Are p f0 ∧ FvM m M ∧ EnK lo (fe p.A p.n p.xs) S w ∧ ownA p c n0
  stable := fun u S w w' h hp => by
    obtain ⟨p, c, m, e, h1, h2, h3, hb, ho⟩ := hp
    exact ⟨p, c, m, e, h1, h2, h3, hb.keep h, ho⟩
  bx := false
/-- a list of numbers in a block of its own -/
def foK (lo n0 : Nat) (f0 : Nat → O) : Kd where
  p := fun u S w => ∃ (p : Ls) (c : Nat), u = .slice p.A p.n c ∧ p.n = n0 ∧ Are p f0 ∧ EnK lo (fe p.A p.n p.xs) S w ∧ ownA p c n0
  stable := fun u S w w' h hp => by
    obtain ⟨p, c, e, h1, h2, hb, ho⟩ := hp
    exact ⟨p, c, e, h1, h2, hb.keep h, ho⟩
  bx := false
theorem plo_of {lo n0 : Nat} {f0 : Nat → O} {M : Mem} {b : Bool} {w w' : World} {e : Ending} (hl : lo ≤ w.heap.size) (h : PLMBo n0 f0 M b w e w') : ∃ u S, e = .returned u ∧ nb u ∧ (ploK lo n0 f0 M b).p u S w' ∧ w.Since w.heap.size w' ∧ ∀ g, S g → w.heap.size ≤ g ∧ g < w'.heap.size := by
  obtain ⟨p, c, m, rfl, h1, h2, h3, h4, h5, h6, h7⟩ := h
  have hg := h2.toE
  exact ⟨_, (fe p.A p.n p.xs).S, rfl, trivial, ⟨p, c, m, rfl, h1, h3, h4, EnK.of hg hl, h6, h7⟩, h5, hg.2.2⟩
/-- a float -/
def yK (Y : O) : Kd where
  p := fun u S w => ∃ q : Nat, u = .float .f32 q ∧ Hid (Fv .f32 q Y)
  stable := fun u S w w' h hp => hp
  bx := false
/-- a float, a memory and a yes or no -/
def ymbK (Y : O) (M : Mem) (b : Bool) : Kd where
  p := fun u S w => ∃ (q : Nat) (m : MemN), u = .tuple #[.float .f32 q, .agg #[.float .f32 m.a, .float .f32 m.b, .float .f32 m.c, .float .f32 m.d], .bool b] ∧ Hid (Fv .f32 q Y) ∧ FvM m M
  stable := fun u S w w' h hp => hp
  bx := false
theorem ymb_of {Y : O} {M : Mem} {b : Bool} {w w' : World} {e : Ending} (h : FSPost w b Y M e w') : ∃ u S, e = .returned u ∧ nb u ∧ (ymbK Y M b).p u S w' ∧ w.Since w.heap.size w' ∧ ∀ g, S g → w.heap.size ≤ g ∧ g < w'.heap.size := by
  obtain ⟨y, m, rfl, h1, h2, h3⟩ := h
  exact ⟨_, fun _ => False, rfl, trivial, ⟨y, m, rfl, h1, h2⟩, h3, fun g h => h.elim⟩
section
variable {P : Program} {ops : Array Oper} {w0 : World} {Q : Fa → Prop} {a : Act} {κ : Nat → Option Kd} {o : Oper} {rest : List Oper} {d : Nat}
/-- a cell is loaded that lies before the statement's own memory -/
theorem sLoad1 (hg : o.guard = none) (hd : o.dst = some d) (hk : κ d = none) (ho : avoidK ⟨a, κ⟩ o = true) (ty : TypeId) (x : Operand) (hop : o.op = .load ty x) (p : Addr) (hx : a.eval x = .pointer (some p)) (val : Value)
    (hS : ∀ v, w0.Since w0.heap.size v → (loadVar ty p).run P v = .ok val v)
    (hK : wpK P ops w0 Q rest ⟨a.put (some d) val, κ⟩) : wpK P ops w0 Q (o :: rest) ⟨a, κ⟩ :=
  sTold hg hd hk ho _ (fun w hw _ => ⟨w, by
    unfold execOp
    simp only [hop, hx, Instr.loadAt, Instr.sureAddr, Sem.run_bind, Sem.run_pure, Result.andThen_ok, hS w hw], World.Since.refl _ _⟩) hK
end
theorem load_f32 {w : World} {p : Addr} {x : Nat} (h : w.cell? p = some (.float .f32 x)) : (loadVar 22 p).run Try.prog w = .ok (.float .f32 x) w := by
  simp [loadVar, go_sem, h]
end Lk
theorem Fl.On.of_since {g : Nat} {w w' : World} (h : w.Since w.heap.size w') (hg : g < w.heap.size) : On g w w' := ⟨since_mono h (by omega), fun b hb _ => h.block b hb⟩
theorem PLMBo.like {n0 : Nat} {f0 f1 : Nat → O} {M : Mem} {b : Bool} {w w' : World} {e : Ending} (h : PLMBo n0 f0 M b w e w') (hl : ∀ j, j < n0 → f0 j = f1 j) : PLMBo n0 f1 M b w e w' := by
  obtain ⟨p, c, m, h1, h2, h3, h4, h5⟩ := h
  exact ⟨p, c, m, h1, h2, h3, fun j hj => (h4 j hj).trans (hl j (h2 ▸ hj)), h5⟩
theorem implFS_ok (form : Nat) (hform : form ≤ 2) (f : FilN) (fu : Bool) (m : MemN) (x : Nat) (F : Fil) (M : Mem) (X : O) (w : World) (hF : FvF f F) (hM : FvM m M) (hx : Hid (Fv .f32 x X)) :
    Calls Try.prog 46 #[f.val, .int .i64 (form : Int), .bool fu, m.val, .float .f32 x] w (FSPost w true (stepY form fu F M X) (stepM form fu F M X)) := by
  match form, hform with
  | 0, _ => exact implFS_Dir f fu m x F M X w hF hM hx
  | 1, _ => exact implFS_Tur f fu m x F M X w hF hM hx
  | 2, _ => exact implFS_Can f fu m x F M X w hF hM hx
theorem sameM {m n : MemN} {M : Mem} (h : FvM m M) (k : FvM n M) : sameB m.a n.a = true ∧ sameB m.b n.b = true ∧ sameB m.c n.c = true ∧ sameB m.d n.d = true := by
  unfold sameB
  refine ⟨decide_eq_true ?_, decide_eq_true ?_, decide_eq_true ?_, decide_eq_true ?_⟩
  · rw [h.a.out.2, k.a.out.2]
  · rw [h.b.out.2, k.b.out.2]
  · rw [h.c.out.2, k.c.out.2]
  · rw [h.d.out.2, k.d.out.2]
theorem FvM.self {m : MemN} {M : Mem} (h : FvM m M) : FvM m (ofM m) := ⟨Lib.hid ⟨h.a.out.1, rfl⟩, Lib.hid ⟨h.b.out.1, rfl⟩, Lib.hid ⟨h.c.out.1, rfl⟩, Lib.hid ⟨h.d.out.1, rfl⟩⟩
theorem implSM_eq (m n : MemN) (M : Mem) (w : World) (h : FvM m M) (k : FvM n M) :
    Calls Try.prog 45 #[.agg #[.float .f32 m.a, .float .f32 m.b, .float .f32 m.c, .float .f32 m.d], .agg #[.float .f32 n.a, .float .f32 n.b, .float .f32 n.c, .float .f32 n.d]] w fun e w' => e = .returned (.bool true) ∧ w.Since w.heap.size w' := by
  obtain ⟨a, b, c, d⟩ := sameM h k
  exact (implSM_any m n w h.self k.self true true true true a b c d).mono fun e w' ⟨h1, h2⟩ => ⟨h1, h2⟩
/-- what is flushed is not subnormal -/
theorem sub_flushed (b : Nat) : subB (flushN b) = false := by
  unfold subB flushN
  split
  · have h : zeroB (b / 2147483648 * 2147483648) = true := by unfold zeroB; simp
    rw [h]; rfl
  · next h => rw [decide_eq_false h]; simp
theorem sub_flO {q : Nat} {V : O} (h : Hid (Fv .f32 q (flO true V))) : subB q = false := by
  have h2 := h.out.2
  cases hv : ab .f32 q with
  | none =>
    have : ¬ (q % 2147483648 < 8388608) := by
      intro h3
      rw [ab32, if_neg (by omega)] at hv; cases hv
    unfold subB; rw [decide_eq_false this]; simp
  | some y =>
    obtain rfl := ab_some hv
    rw [hv] at h2
    unfold flO at h2
    cases V with
    | none => simp at h2
    | some v =>
      simp only [if_true, Option.map_some] at h2
      injection h2 with h2
      rw [h2]; exact sub_flushed v
theorem stepY_flushed (form : Nat) (F : Fil) (M : Mem) (X : O) : ∃ V, stepY form true F M X = flO true V := by
  unfold stepY
  split
  · exact ⟨_, rfl⟩
  · exact ⟨_, rfl⟩
  · exact ⟨_, rfl⟩
end Go.Proofs.Ytebocaicebolaaa

/- Loose regions with guards. -/
set_option linter.unusedVariables false
set_option linter.unusedSimpArgs false
namespace Go.Proofs.Ytebocaicebolaaa
open Fl Go.RowKit
namespace Lk
section
variable {P : Program} {ops : Array Oper} {w0 : World} {Q : Fa → Prop} {A : Fa} {o : Oper} {rest : List Oper}
/-- an operation without its guard -/
def free (o : Oper) : Oper := { o with guard := none }
theorem looks_free {i : Nat} (h : i ∈ (free o).looksAt ops) : i ∈ o.looksAt ops := by
  unfold Oper.looksAt at h ⊢
  rcases List.mem_append.1 h with h | h
  · exact List.mem_append_left _ h
  · cases h
theorem good_free {N : Nat} {b : Act} {fp : Nat → Fp} {w : World} {e : Ef} {u : Value} {w' : World} (h : good ops N (free o) A b fp w e u w') : good ops N o A b fp w e u w' := by
  obtain ⟨x, st⟩ := e
  unfold good at h ⊢
  refine ⟨?_, h.2⟩
  cases x with
  | v z => exact h.1
  | k K =>
    obtain ⟨h1, S, h2, h3, h4⟩ := h.1
    refine ⟨h1, S, h2, h3, fun g hg => ⟨(h4 g hg).1, ?_⟩⟩
    rcases (h4 g hg).2 with h5 | h5 | ⟨j, K', h6, h7⟩
    · exact .inl h5
    · exact .inr (.inl h5)
    · exact .inr (.inr ⟨j, K', looks_free h6, h7⟩)
theorem upon_mono {G H : Value → World → Prop} (hGH : ∀ u w, G u w → H u w) {r : Result Next} (h : upon P G r) : upon P H r := by
  cases r with
  | ok n w2 =>
    cases n with
    | value u => exact hGH _ _ h
    | skip => exact hGH _ _ h
    | enter f args => exact Calls.mono h fun e w3 ⟨u, he, hu⟩ => ⟨u, he, hGH _ _ hu⟩
    | _ => exact h
  | halt x w2 => exact h
/-- an operation whose guard says yes -/
theorem wpK_yes {q : Nat × Bool} (hg : o.guard = some q) (hw : Region.wanted o (yielded ops A.a.tmps) = true) (h : wpK P ops w0 Q (⟨o.dst, o.op, o.type, o.pos, o.after, none⟩ :: rest) A) : wpK P ops w0 Q (o :: rest) A := by
  have h' : wpK P ops w0 Q (free o :: rest) A := h
  unfold wpK at h' ⊢
  rw [if_pos hw]
  rw [if_pos (Lo.wanted_none rfl _)] at h'
  obtain ⟨e, ⟨h1, h2⟩, hK⟩ := h'
  refine ⟨e, ⟨h1, fun b fp w hw hN hs hR => ?_⟩, hK⟩
  exact upon_mono (fun u w' hg => good_free hg) (h2 b fp w hw hN hs fun i hi => hR i (looks_free hi))
end
section
variable {P : Program} {ops : Array Oper} {w0 : World} {Q : Fa → Prop} {a : Act} {κ : Nat → Option Kd} {o : Oper} {rest : List Oper} {d : Nat}
/-- an operation whose guard says no -/
theorem sSkip {q : Nat × Bool} (hg : o.guard = some q) (hw : Region.wanted o (yielded ops a.tmps) = false) (hd : o.dst = some d) (hk : κ d = none) (hK : wpK P ops w0 Q rest ⟨a.put (some d) undef, κ⟩) : wpK P ops w0 Q (o :: rest) ⟨a, κ⟩ := by
  unfold wpK
  rw [if_neg (by rw [hw]; decide), hd, put_known hk]
  exact hK
theorem sYes {q : Nat × Bool} (hg : o.guard = some q) (hw : Region.wanted o (yielded ops a.tmps) = true) (h : wpK P ops w0 Q (⟨o.dst, o.op, o.type, o.pos, o.after, none⟩ :: rest) ⟨a, κ⟩) : wpK P ops w0 Q (o :: rest) ⟨a, κ⟩ := wpK_yes hg hw h
/-- a float, whatever its bits if it is none -/
def yF (Y : O) : Kd where
  p := fun u S w => ∃ q : Nat, u = .float .f32 q ∧ Hid (Fv .f32 q Y)
  stable := fun u S w w' h hp => hp
  bx := false
/-- an operation on floats, whose result may be none -/
theorem sFop (hg : o.guard = none) (hd : o.dst = some d) (hs : d < a.tmps.size) (ho : avoidK ⟨a, κ⟩ o = true) (op : BinOp) (t t2 : TypeId) (x y : Operand) (hop : o.op = Op.binOp op t x y t2) (hf : isF op = true) (p q : Nat) (X Y : O)
    (hx : a.eval x = .float .f32 p) (hy : a.eval y = .float .f32 q) (hX : Hid (Fv .f32 p X)) (hY : Hid (Fv .f32 q Y)) (hK : wpK P ops w0 Q rest ⟨a.put (some d) undef, upd κ d (some (yF (opO op .f32 X Y)))⟩) : wpK P ops w0 Q (o :: rest) ⟨a, κ⟩ := by
  refine wpK_of_loose (e := ⟨.k (yF (opO op .f32 X Y)), none⟩) hg ⟨fun q hq => (by cases hq), fun b fp w hw hN _ hR => ?_⟩ (by rw [hd, put_some hs]; exact hK)
  rw [eval_avoidK hR ho]
  have e : (execOp a.eval o).run P w = .ok (.value (.float .f32 (ov op .f32 p q w))) (w.drewN (on op .f32 p q)) := by
    have he : eqGuard op t x y (.float .f32 p) (.float .f32 q) = pure () := by
      unfold eqGuard
      cases op <;> simp only [isF] at hf <;> first | (cases hf; done) | rfl
    unfold execOp
    simp only [hop, hx, hy, he, Sem.run_bind, run_fopE hf, Result.andThen_ok, Sem.run_pure]
  rw [e]
  refine ⟨⟨trivial, fun _ => False, ⟨_, rfl, Lib.hid ?_⟩, (fun h => by cases h), fun g hg => hg.elim⟩, since_drewN (World.Since.refl _ _) _⟩
  have := ov_fv hf .f32 p q w
  rw [hX.out.2, hY.out.2] at this
  exact this
/-- a call with one argument known by its properties, and one known value -/
theorem sCall1V (hg : o.guard = none) (hd : o.dst = some d) (hkd : κ d = none) (f : FuncId) (xs : List Operand) (tys : Array TypeId) (hop : o.op = Op.call ⟨.value (.func f), xs.toArray, tys⟩) (henter : ∀ args w2, (callFunc f args).run P w2 = .ok (.enter f args) w2) (s : Nat) (hin : (.tmp s : Operand) ∈ xs) (K0 : Kd) (hks : κ s = some K0) (V : Value → List Value)
    (hV : ∀ b : Act, (xs.map fun x => match x with | .tmp t => (match κ t with | some _ => b.tmps.getD t undef | none => a.tmps.getD t undef) | y => a.eval y) = V (b.tmps.getD s undef)) (z : Value)
    (hc : ∀ u S w, w0.Since w0.heap.size w → w0.heap.size ≤ w.heap.size → K0.p u S w → Calls P f (V u).toArray w fun e2 w2 => e2 = .returned z ∧ w.Since w.heap.size w2)
    (hK : wpK P ops w0 Q rest ⟨a.put (some d) z, κ⟩) : wpK P ops w0 Q (o :: rest) ⟨a, κ⟩ :=
  wpK_callV hg f xs tys hop henter z (fun b fp w hw hN hR => by
    have e := args_eq hR (mem_call hop)
    rw [e]
    have h := (hR s (looks_op (mem_call hop _ hin))).some_ hks
    have := hc _ _ w hw hN h.2.2.1
    rw [← hV b] at this
    exact this) (by rw [hd, put_known hkd]; exact hK)
/-- a cell is loaded that lies before the statement's own memory -/
theorem sLoadF (hg : o.guard = none) (hd : o.dst = some d) (hk : κ d = none) (ho : avoidK ⟨a, κ⟩ o = true) (ty : TypeId) (x : Operand) (hop : o.op = .load ty x) (p : Addr) (hx : a.eval x = .pointer (some p)) (val : Value)
    (hS : ∀ v, w0.Since w0.heap.size v → (loadVar ty p).run P v = .ok val v)
    (hK : wpK P ops w0 Q rest ⟨a.put (some d) val, κ⟩) : wpK P ops w0 Q (o :: rest) ⟨a, κ⟩ :=
  sTold hg hd hk ho _ (fun w hw _ => ⟨w, by
    unfold execOp
    simp only [hop, hx, Instr.loadAt, Instr.sureAddr, Sem.run_bind, Sem.run_pure, Result.andThen_ok, hS w hw], World.Since.refl _ _⟩) hK
end
theorem loadF {w : World} {p : Addr} {x : Nat} (h : w.cell? p = some (.float .f32 x)) : (loadVar 22 p).run Try.prog w = .ok (.float .f32 x) w := by
  simp [loadVar, go_sem, h]
end Lk
end Go.Proofs.Ytebocaicebolaaa

/- Filters: samples in the reverse order, both sides. -/
set_option linter.unusedVariables false
set_option linter.unusedSimpArgs false
namespace Go.Proofs.Ytebocaicebolaaa
open Fl Go.RowKit
def revX (n : Nat) (X : Nat → O) (k : Nat) : O := X (n - 1 - k)
set_option maxHeartbeats 4000000 in
set_option maxRecDepth 100000 in
theorem specTurned_any (A : Option Addr) (n c : Nat) (xs : List Nat) (w : World) (hA : Fs w w.heap.size A n xs) (hn : n ≤ 256) :
    Calls Try.prog 66 #[.slice A n c] w (PL n (revX n (fun k => ab .f32 (wd xs k))) w) := by
  have HA := Lib.hid hA; clear hA
  go_enter Try.func66, Try.ntmps66
  go_wp2_with fail
  go_loopw [3, 4] (fun v i wr => ∃ (k : Nat) (z : Int), k ≤ n ∧ Hid (z = (n : Int) - 1 - k) ∧ i = .int .i64 z ∧ Rw w.heap.size wr v k (revX n (fun k => ab .f32 (wd xs k))) ∧ w.Since w.heap.size wr) (fun _ i _ => (intOf i + 1).toNat)
  case atStart => exact ⟨0, _, Nat.zero_le _, Lib.hid (by omega), rfl, Rw.start w _ (Nat.le_refl _) _, (World.Since.refl _ _).alloc (Nat.le_refl _) _⟩
  case round =>
    obtain ⟨k, z, hk, hz, rfl, hr, hs⟩ := hrel
    have HR := Lib.hid hr; have HS := Lib.hid hs
    clear hr hs
    by_cases hlt : k < n
    · obtain ⟨j, rfl⟩ := Int.eq_ofNat_of_zero_le (show 0 ≤ z by have := hz.out; omega)
      have hj : j = n - 1 - k := by have := hz.out; omega
      have HJ := Lib.hid hj; clear hj
      have hjn : j < n := by have := HJ.out; omega
      obtain ⟨g, off, rfl, hg, hc⟩ := HA.out.2.2 (by omega)
      have hcell : wr.cell? ⟨g, off + j, none⟩ = some (.float .f32 (wd xs j)) := (HS.out.cell (a := ⟨g, off + j, none⟩) hg).trans (hc j hjn)
      have hx : Hid (Fv .f32 (wd xs j) (revX n (fun k => ab .f32 (wd xs k)) k)) := Lib.hid ⟨HA.out.2.1.at_ j, by unfold revX; rw [← HJ.out]⟩
      have hsz := HS.out.size
      clear hc
      go_wp2_with (at_builtin; refine wpList_app1 rfl (.tmp 13) (.tmp 18) rfl w.heap.size _ k _ rfl _ _ rfl (by simp [go_sem]) (by omega) (by simp; omega) hx (HR.out.alloc _) ?_; intro v' w3 hR3 hS3)
      go_roundw
      case rel => exact ⟨k + 1, (j : Int) - 1, by omega, Lib.hid (by have := hz.out; omega), by go_num, hR3.out, HS.out.trans (((World.Since.refl _ _).alloc hsz _).trans hS3.out)⟩
      case measure => first | (simp [intOf]; done) | (simp [intOf]; omega)
    · obtain rfl : k = n := by omega
      have hneg : decide (0 ≤ z) = false := decide_eq_false (by have := hz.out; omega)
      obtain ⟨p, cp, rfl, rfl, hg, ha⟩ := HR.out.done
      have HG := Lib.hid hg; have HAA := Lib.hid ha; clear hg ha
      go_wp2
      go_ret
      exact ⟨p, cp, rfl, rfl, HG.out, HAA.out, HS.out⟩
theorem Pr.putAt {w : World} {g n : Nat} {Y X : Nat → O} (h : Pr w g n 0 Y X) {i : Nat} (hi : i < n) {r : Nat} {V : O} (hr : Hid (Fv .f32 r V)) : Pr (w.setCell ⟨g, i, none⟩ (.float .f32 r)) g n 0 Y (fun j => if j = i then V else X j) := by
  obtain ⟨xs, h1, h2, h3, h4⟩ := h
  refine ⟨xs.set i r, by rw [List.length_set, h1], fun x hx => ?_, (h3.set i _).congr (fun j hj => ?_), fun j hj => ?_⟩
  · rcases List.mem_or_eq_of_mem_set hx with h | rfl
    · exact h2 x h
    · exact hr.out.1
  · unfold fv wd
    by_cases e : j = i
    · subst e; rw [if_pos rfl]; simp [List.getD_eq_getElem?_getD, List.getElem?_set, h1, hj]
    · rw [if_neg e]; simp [List.getD_eq_getElem?_getD, List.getElem?_set, show ¬ (i = j) from fun h => e h.symm]
  · rw [if_neg (by omega)]
    show _ = (if j = i then V else X j)
    unfold wd
    by_cases e : j = i
    · subst e
      rw [if_pos rfl]
      simp [List.getD_eq_getElem?_getD, List.getElem?_set, h1, hi]
      exact hr.out.2
    · have := h4 j hj
      rw [if_neg (by omega)] at this
      rw [if_neg e]
      unfold wd at this
      simpa [List.getD_eq_getElem?_getD, List.getElem?_set, show ¬ (i = j) from fun h => e h.symm] using this
theorem Pr.likeX {w : World} {g n k : Nat} {Y X Z : Nat → O} (h : Pr w g n k Y X) (e : ∀ j, j < n → X j = Z j) : Pr w g n k Y Z := by
  obtain ⟨xs, h1, h2, h3, h4⟩ := h
  exact ⟨xs, h1, h2, h3, fun j hj => by rw [h4 j hj, e j hj]⟩
/-- k pairs are exchanged -/
def midX (n k : Nat) (X : Nat → O) (j : Nat) : O := if j < k ∨ n ≤ j + k then X (n - 1 - j) else X j
set_option maxHeartbeats 8000000 in
set_option maxRecDepth 100000 in
theorem reverse_any (A : Option Addr) (n c g : Nat) (Y X : Nat → O) (w : World) (hA : 0 < n → A = some ⟨g, 0, none⟩ ∧ Pr w g n 0 Y X) (hn : n ≤ 256) :
    Calls Try.prog 70 #[.slice A n c] w fun e w' => e = .returned (.tuple #[]) ∧ (0 < n → Pr w' g n 0 Y (revX n X)) ∧ On g w w' := by
  have HA := Lib.hid hA; clear hA
  go_enter Try.func70, Try.ntmps70
  go_wp2_with fail
  go_loopw [2, 3] (fun i v wr => ∃ (k : Nat) (z : Int), 2 * k ≤ n + 1 ∧ i = .int .i64 (k : Int) ∧ Hid (z = (n : Int) - 1 - k) ∧ v = .int .i64 z ∧ (0 < n → Pr wr g n 0 Y (midX n k X)) ∧ On g w wr) (fun i _ _ => n - (intOf i).toNat)
  case atStart => exact ⟨0, _, by omega, rfl, Lib.hid (by omega), rfl, fun h => (HA.out h).2.likeX fun j hj => by unfold midX; rw [if_neg (by omega)], On.refl _ _⟩
  case round =>
    obtain ⟨k, z, hk, rfl, hz, rfl, hp, ho⟩ := hrel
    have HP := Lib.hid hp; have HO := Lib.hid ho
    clear hp ho
    by_cases hlt : (k : Int) < z
    · obtain ⟨j, rfl⟩ := Int.eq_ofNat_of_zero_le (show 0 ≤ z by omega)
      have hj : j = n - 1 - k := by have := hz.out; omega
      have HJ := Lib.hid hj; clear hj
      have hkj : k < j := by omega
      have hjn : j < n := by have := HJ.out; omega
      have hkn : k < n := by omega
      obtain ⟨rfl, _⟩ := HA.out (by omega)
      have hpp := HP.out (by omega)
      obtain ⟨x, cx, hx⟩ := hpp.cell hkn (Nat.zero_le _)
      obtain ⟨y, cy, hy⟩ := hpp.cell hjn (Nat.zero_le _)
      have fx := hpp.free k
      have fy := hpp.free j
      have hne : ¬ k = j := by omega
      have hne2 : ¬ j = k := by omega
      have HPP := Lib.hid hpp; clear hpp
      have hx2 : Hid (Fv .f32 x (X k)) := by
        have e : midX n k X k = X k := by unfold midX; rw [if_neg (by have := HJ.out; omega)]
        rw [e] at hx; exact hx
      have hy2 : Hid (Fv .f32 y (X j)) := by
        have e : midX n k X j = X j := by unfold midX; rw [if_neg (by have := HJ.out; omega)]
        rw [e] at hy; exact hy
      clear hx hy
      have Q1 := Lib.hid ((HPP.out.putAt hkn hy2).putAt hjn hx2)
      have Q2 := Lib.hid ((HPP.out.putAt hjn hx2).putAt hkn hy2)
      have hfin1 : ∀ i, i < n → (fun i => if i = j then X k else (fun i => if i = k then X j else midX n k X i) i) i = midX n (k + 1) X i := fun i hi => by
        simp only
        unfold midX
        have hj := HJ.out
        by_cases e1 : i = j
        · rw [if_pos e1, if_pos (by omega), show n - 1 - i = k by omega]
        · rw [if_neg e1]
          by_cases e2 : i = k
          · rw [if_pos e2, if_pos (by omega), show n - 1 - i = j by omega]
          · rw [if_neg e2]
            by_cases e3 : i < k ∨ n ≤ i + k
            · rw [if_pos e3, if_pos (by omega)]
            · rw [if_neg e3, if_neg (by omega)]
      have hfin2 : ∀ i, i < n → (fun i => if i = k then X j else (fun i => if i = j then X k else midX n k X i) i) i = midX n (k + 1) X i := fun i hi => by
        rw [← hfin1 i hi]
        simp only
        by_cases e1 : i = j
        · subst e1; rw [if_neg hne2, if_pos rfl, if_pos rfl]
        · by_cases e2 : i = k
          · subst e2; rw [if_pos rfl, if_neg hne, if_pos rfl]
          · rw [if_neg e2, if_neg e1, if_neg e1, if_neg e2]
      have R1 := Lib.hid (Q1.out.likeX hfin1)
      have R2 := Lib.hid (Q2.out.likeX hfin2)
      have O1 := Lib.hid ((HO.out.set k (.float .f32 y)).set j (.float .f32 x))
      have O2 := Lib.hid ((HO.out.set j (.float .f32 x)).set k (.float .f32 y))
      clear Q1 Q2 hfin1 hfin2
      go_wp2_with fail
      go_region
      all_goals
        go_wp2_with fail
        go_roundw
        case rel => exact ⟨k + 1, (j : Int) - 1, by have := HJ.out; omega, by go_num, Lib.hid (by have := hz.out; omega), by go_num, fun _ => by first | exact R1.out | exact R2.out, by first | exact O1.out.drewN _ | exact O2.out.drewN _ | exact O1.out | exact O2.out⟩
        case measure => simp [intOf]; omega
    · have hd : decide ((k : Int) < z) = false := decide_eq_false hlt
      go_wp2_with fail
      go_end0
      exact ⟨rfl, fun h => (HP.out h).likeX fun j hj => by
        unfold midX revX
        have h1 := hz.out
        by_cases e : j < k ∨ n ≤ j + k
        · rw [if_pos e]
        · rw [if_neg e, show n - 1 - j = j by omega], HO.out⟩
end Go.Proofs.Ytebocaicebolaaa

/- Filters: both ways, both sides. -/
set_option linter.unusedVariables false
set_option linter.unusedSimpArgs false
namespace Go.Proofs.Ytebocaicebolaaa
open Fl Go.RowKit
def bothX (F : Fil) (n : Nat) (X : Nat → O) : Nat → O := revX n (filY 0 false F noM (revX n (filY 0 false F noM X)))
theorem revX_like {n : Nat} {X Y : Nat → O} (h : ∀ k, k < n → X k = Y k) (k : Nat) (hk : k < n) : revX n X k = revX n Y k := h _ (by omega)
set_option maxHeartbeats 8000000 in
set_option maxRecDepth 100000 in
theorem specFBW_ok (f : FilN) (F : Fil) (A : Option Addr) (n c : Nat) (xs : List Nat) (w : World) (hF : FvF f F) (hA : Fs w w.heap.size A n xs) (hn : n ≤ 256) :
    Calls Try.prog 24 #[f.val, .slice A n c] w (PLB n (bothX F n (fun k => ab .f32 (wd xs k))) true w) := by
  have h2 : decide ((n : Int) ≤ 256) = true := decide_eq_true (by omega)
  have HR := Lib.hid fun (V : World) (B : Option Addr) (d : Nat) (ys : List Nat) (X : Nat → O) (hg : FilAt V w.heap.size f) (hB : Fs V V.heap.size B n ys) (hX : ∀ k, k < n → ab .f32 (wd ys k) = X k) => (show Calls Try.prog 60 #[.pointer (some ⟨w.heap.size, 0, none⟩), .int .i64 0, .bool false, .agg #[.float .f32 0, .float .f32 0, .float .f32 0, .float .f32 0], .slice B n d] V (fun e w' => ∃ (p : Ls) (c qa qb qc qd : Nat), e = .returned (.tuple #[.slice p.A p.n c, .agg #[.float .f32 qa, .float .f32 qb, .float .f32 qc, .float .f32 qd]]) ∧ p.n = n ∧ Gs 22 w' V.heap.size p.A p.n p.xs ∧ Are p (filY 0 false F noM X) ∧ V.Since V.heap.size w') from by
    have h := specRun_any 0 (by omega) false w.heap.size f ⟨0, 0, 0, 0⟩ F noM B n d ys V hg hF noM_fv hB hn
    simp only [MemN.val] at h
    refine Calls.mono h fun e w' => ?_
    rintro ⟨p, c, ⟨qa, qb, qc, qd⟩, he, hp, hg2, ha, hm, hs⟩
    exact ⟨p, c, qa, qb, qc, qd, he, hp, hg2, fun k hk => (ha k hk).trans (filY_like hX k (by omega)), hs⟩)
  obtain ⟨b0, b1, b2, a1, a2⟩ := f
  unfold FilN.val
  have HA := Lib.hid hA; clear hA
  go_enter Try.func24, Try.ntmps24
  go_wp2_with fail
  generalize hW1 : World.alloc w _ = W1
  have z1 : W1.heap.size = w.heap.size + 1 := by rw [← hW1]; simp
  have FA : FilAt W1 w.heap.size ⟨b0, b1, b2, a1, a2⟩ := by rw [← hW1]; exact ⟨by simp, by simp [go_sem], by simp [go_sem], by simp [go_sem], by simp [go_sem], by simp [go_sem]⟩
  have S1 : Hid (w.Since w.heap.size W1) := Lib.hid (by rw [← hW1]; exact (World.Since.refl _ _).alloc (Nat.le_refl _) _)
  have F1 := Lib.hid FA
  clear hW1 FA
  go_wp2_with (go_at_call 59; refine (few_fil _ _ _ _ _ h2).mono ?_; rintro e w' ⟨rfl, rfl⟩)
  refine (HR.out W1 A c xs _ F1.out ((HA.out.since S1.out).more S1.out.size) (fun _ _ => rfl)).mono ?_
  rintro e w2 ⟨⟨pA, pn, px⟩, cp, qa, qb, qc, qd, rfl, hp, hg, ha, hs⟩
  simp only at hp hg; subst hp
  have G2 := Lib.hid hg.read; have A2 := Lib.hid ha; have S2 := Lib.hid (since_step S1.out hs)
  have F2 := Lib.hid (F1.out.since (since_mono hs (by omega)))
  clear hg ha hs
  go_wp2_with fail
  generalize hW3 : World.alloc w2 _ = w3
  have s3 : w2.Since w2.heap.size w3 := by rw [← hW3]; exact (World.Since.refl _ _).alloc (Nat.le_refl _) _
  have G3 := Lib.hid ((G2.out.since s3).more s3.size); have S3 := Lib.hid (since_step S2.out s3)
  have hz2 := S2.out.size
  have F3 := Lib.hid (F2.out.since (since_mono s3 (by have := F2.out.lt; omega)))
  clear hW3 s3
  go_at_call 66
  refine (specTurned_any pA pn cp px w3 G3.out hn).mono ?_
  rintro e w4 ⟨⟨rA, rn, rx⟩, cr, rfl, hp, hg, ha, hs⟩
  simp only at hp hg; subst hp
  have G4 := Lib.hid hg.read; have A4 := Lib.hid ha; have S4 := Lib.hid (since_step S3.out hs)
  have F4 := Lib.hid (F3.out.since (since_mono hs (by have := F3.out.lt; omega)))
  clear hg ha hs
  go_wp2_with fail
  refine (HR.out w4 rA cr rx (revX rn (filY 0 false F noM (fun k => ab .f32 (wd xs k)))) F4.out G4.out (fun k hk => (A4.out k hk).trans (revX_like (fun j hj => A2.out j hj) k hk))).mono ?_
  rintro e w5 ⟨⟨sA, sn, sx⟩, cs, ua, ub, uc, ud, rfl, hp, hg, ha, hs⟩
  simp only at hp hg; subst hp
  have G5 := Lib.hid hg.read; have A5 := Lib.hid ha; have S5 := Lib.hid (since_step S4.out hs)
  clear hg ha hs
  go_wp2_with fail
  generalize hW6 : World.alloc w5 _ = w6
  have s6 : w5.Since w5.heap.size w6 := by rw [← hW6]; exact (World.Since.refl _ _).alloc (Nat.le_refl _) _
  have G6 := Lib.hid ((G5.out.since s6).more s6.size); have S6 := Lib.hid (since_step S5.out s6)
  clear hW6 s6
  go_at_call 66
  refine (specTurned_any sA sn cs sx w6 G6.out hn).mono ?_
  rintro e w7 ⟨⟨tA, tn, tx⟩, ct, rfl, hp, hg, ha, hs⟩
  simp only at hp hg; subst hp
  have G7 := Lib.hid (hg.less S6.out.size); have A7 := Lib.hid ha; have S7 := Lib.hid (since_step S6.out hs)
  clear hg ha hs
  go_wp2
  go_ret2
  exact ⟨⟨tA, tn, tx⟩, ct, rfl, rfl, G7.out, fun k hk => (A7.out k hk).trans (revX_like (fun j hj => A5.out j hj) k hk), S7.out⟩
theorem specFBW_no (f : FilN) (A : Option Addr) (n c : Nat) (w : World) (h : ¬ n ≤ 256) (G : Nat → O) :
    Calls Try.prog 24 #[f.val, .slice A n c] w (PLB 0 G false w) := by
  have h2 : decide ((n : Int) ≤ 256) = false := decide_eq_false (by omega)
  obtain ⟨b0, b1, b2, a1, a2⟩ := f
  unfold FilN.val
  go_enter Try.func24, Try.ntmps24
  go_wp2_with (go_at_call 59; refine (few_fil _ _ _ _ _ h2).mono ?_; rintro e w' ⟨rfl, rfl⟩)
  go_ret2
  exact PLB.none_ ((World.Since.refl _ _).alloc (Nat.le_refl _) _) _
end Go.Proofs.Ytebocaicebolaaa

/- Filters: both ways, the program's. -/
set_option linter.unusedVariables false
set_option linter.unusedSimpArgs false
namespace Go.Proofs.Ytebocaicebolaaa
open Fl Go.RowKit
theorem Pr.any0 {w : World} {g n : Nat} {Y Z X : Nat → O} (h : Pr w g n 0 Y X) : Pr w g n 0 Z X := by
  obtain ⟨xs, h1, h2, h3, h4⟩ := h
  exact ⟨xs, h1, h2, h3, fun j hj => by rw [h4 j hj, if_neg (by omega), if_neg (by omega)]⟩
theorem Pr.next {w : World} {g n : Nat} {Y Z X : Nat → O} (h : Pr w g n n Y X) : Pr w g n 0 Z Y := by
  obtain ⟨xs, h1, h2, h3, h4⟩ := h
  exact ⟨xs, h1, h2, h3, fun j hj => by rw [h4 j hj, if_pos hj, if_neg (by omega)]⟩
theorem Pr.done0 {w : World} {g n lo : Nat} {Y X : Nat → O} (h : Pr w g n 0 Y X) (hl : lo ≤ g) : ∃ xs, Gs 22 w lo (some ⟨g, 0, none⟩) n xs ∧ Are ⟨some ⟨g, 0, none⟩, n, xs⟩ X := by
  obtain ⟨xs, h1, h2, ⟨cs, hb, hc⟩, h4⟩ := h
  exact ⟨xs, ⟨h1, h2, fun _ => ⟨g, cs, rfl, hl, hb, hc⟩⟩, fun j hj => by rw [h4 j hj, if_neg (by omega)]⟩
theorem implFBW_no (f : FilN) (A : Option Addr) (n c : Nat) (w : World) (h : ¬ n ≤ 256) (G : Nat → O) :
    Calls Try.prog 25 #[f.val, .slice A n c] w (PLB 0 G false w) := by
  have h2 : decide ((n : Int) ≤ 256) = false := decide_eq_false (by omega)
  obtain ⟨b0, b1, b2, a1, a2⟩ := f
  unfold FilN.val
  go_enter Try.func25, Try.ntmps25
  go_wp2_with (go_at_call 67; refine (implSamples_b _ _ _ _ _ h2).mono ?_; rintro e w' ⟨rfl, rfl⟩)
  go_ret2
  exact PLB.none_ ((World.Since.refl _ _).alloc (Nat.le_refl _) _) _
set_option maxHeartbeats 8000000 in
set_option maxRecDepth 100000 in
theorem implFBW_ok (f : FilN) (F : Fil) (A : Option Addr) (n c : Nat) (xs : List Nat) (w : World) (hF : FvF f F) (hA : Fs w w.heap.size A n xs) (hn : n ≤ 256) :
    Calls Try.prog 25 #[f.val, .slice A n c] w (PLB n (bothX F n (fun k => ab .f32 (wd xs k))) true w) := by
  have h2 : decide ((n : Int) ≤ 256) = true := decide_eq_true (by omega)
  have HR := Lib.hid fun (V : World) (B : Option Addr) (d g lo : Nat) (X : Nat → O) (hB : 0 < n → B = some ⟨g, 0, none⟩ ∧ lo ≤ g ∧ Pr V g n 0 X X) (hlo : lo ≤ V.heap.size) => (show Calls Try.prog 65 #[.agg #[.float .f32 f.b0, .float .f32 f.b1, .float .f32 f.b2, .float .f32 f.a1, .float .f32 f.a2, .bool false], .func (.func 69) #[] #[], .agg #[.float .f32 0, .float .f32 0, .float .f32 0, .float .f32 0], .slice B n d] V (fun e w' => ∃ (qa qb qc qd : Nat), e = .returned (.agg #[.float .f32 qa, .float .f32 qb, .float .f32 qc, .float .f32 qd]) ∧ (0 < n → Pr w' g n 0 (filY 0 false F noM X) (filY 0 false F noM X)) ∧ V.Since lo w' ∧ (∀ i, i < V.heap.size → i ≠ g → w'.heap[i]? = V.heap[i]?)) from by
    have h := implRun_any 0 _ (.inl ⟨rfl, rfl⟩) false f ⟨0, 0, 0, 0⟩ F noM B n d g lo X V hF noM_fv (fun h0 => ⟨(hB h0).1, (hB h0).2.1, (hB h0).2.2.any0⟩) hn hlo
    simp only [MemN.val, setV] at h
    refine Calls.mono h fun e w' => ?_
    rintro ⟨⟨qa, qb, qc, qd⟩, he, hm, hp, hs, hfr⟩
    exact ⟨qa, qb, qc, qd, he, fun h0 => (hp h0).next, hs, hfr⟩)
  obtain ⟨b0, b1, b2, a1, a2⟩ := f
  unfold FilN.val
  have HA := Lib.hid hA; clear hA
  go_enter Try.func25, Try.ntmps25
  go_wp2_with fail
  generalize hW1 : World.alloc w _ = W1
  have z1 : W1.heap.size = w.heap.size + 1 := by rw [← hW1]; simp
  have F1 : Hid (FilAt W1 w.heap.size ⟨b0, b1, b2, a1, a2⟩) := Lib.hid (by rw [← hW1]; exact ⟨by simp, by simp [go_sem], by simp [go_sem], by simp [go_sem], by simp [go_sem], by simp [go_sem]⟩)
  have S1 : Hid (w.Since w.heap.size W1) := Lib.hid (by rw [← hW1]; exact (World.Since.refl _ _).alloc (Nat.le_refl _) _)
  clear hW1
  go_wp2_with (go_at_call 67; refine (implSamples_b _ _ _ _ _ h2).mono ?_; rintro e w' ⟨rfl, rfl⟩)
  go_at_call 68
  refine (clone_any A n c xs W1 ((HA.out.since S1.out).more S1.out.size) hn).mono ?_
  rintro e w2 ⟨A', c', ys, rfl, hsome, hg, hy, hs⟩
  obtain ⟨X, hX⟩ : ∃ X : Nat → O, Hid (X = fun k => ab .f32 (wd xs k)) := ⟨_, Lib.hid rfl⟩
  have hgx : ∃ g, Hid (w.heap.size + 1 ≤ g ∧ (0 < n → A' = some ⟨g, 0, none⟩ ∧ Pr w2 g n 0 X X)) := by
    by_cases h0 : 0 < n
    · obtain ⟨g, cs, e9, hlg, hbg, _⟩ := hg.2.2 h0
      subst e9
      exact ⟨g, Lib.hid ⟨by omega, fun _ => ⟨rfl, (Pr.of hg h0 fun j hj => by rw [hX.out]; exact hy j hj).2⟩⟩⟩
    · exact ⟨w.heap.size + 1, Lib.hid ⟨Nat.le_refl _, fun h => absurd h h0⟩⟩
  obtain ⟨g, hgg⟩ := hgx
  have S2 := Lib.hid (since_step S1.out hs)
  have F2 := Lib.hid (F1.out.since (since_mono hs (by omega)))
  have G0 := Lib.hid (⟨hg.1, hg.2.1⟩ : ys.length = n ∧ Small ys)
  clear hg hy hs hsome F1 S1 z1
  have hzw := S2.out.size
  have hne : w.heap.size ≠ g := by have := hgg.out.1; omega
  go_wp2_with fail
  refine wp_loop_rounds 3 ?_
  rw [rounds_succ]
  have f0 := F2.out.b0; have f1 := F2.out.b1; have f2 := F2.out.b2; have f3 := F2.out.a1; have f4 := F2.out.a2
  go_wp2_with fail
  refine (HR.out w2 A' c' g w.heap.size X (fun h => ⟨(hgg.out.2 h).1, by have := hgg.out.1; omega, (hgg.out.2 h).2⟩) hzw).mono ?_
  rintro e w3 ⟨qa, qb, qc, qd, rfl, hp, hs, hfr⟩
  have P3 := Lib.hid hp; have S3 := Lib.hid (S2.out.trans hs)
  have F3 : Hid (FilAt w3 w.heap.size ⟨b0, b1, b2, a1, a2⟩) := Lib.hid (by
    have hb := hfr w.heap.size F2.out.lt hne
    exact ⟨Nat.lt_of_lt_of_le F2.out.lt hs.size, (cell_of_block hb _).trans F2.out.b0, (cell_of_block hb _).trans F2.out.b1, (cell_of_block hb _).trans F2.out.b2, (cell_of_block hb _).trans F2.out.a1, (cell_of_block hb _).trans F2.out.a2⟩)
  clear hp hs hfr f0 f1 f2 f3 f4
  go_wp2_with fail
  refine (reverse_any A' n c' g (filY 0 false F noM X) (filY 0 false F noM X) w3 (fun h => ⟨(hgg.out.2 h).1, P3.out h⟩) hn).mono ?_
  rintro e w4 ⟨rfl, hp, ho⟩
  have P4 := Lib.hid hp; have S4 := Lib.hid (S3.out.trans (since_mono ho.1 (show w.heap.size ≤ g by have := hgg.out.1; omega)))
  have F4 : Hid (FilAt w4 w.heap.size ⟨b0, b1, b2, a1, a2⟩) := Lib.hid (by
    have hb := ho.2 w.heap.size F3.out.lt hne
    exact ⟨Nat.lt_of_lt_of_le F3.out.lt ho.1.size, (cell_of_block hb _).trans F3.out.b0, (cell_of_block hb _).trans F3.out.b1, (cell_of_block hb _).trans F3.out.b2, (cell_of_block hb _).trans F3.out.a1, (cell_of_block hb _).trans F3.out.a2⟩)
  clear hp ho
  have f0 := F4.out.b0; have f1 := F4.out.b1; have f2 := F4.out.b2; have f3 := F4.out.a1; have f4 := F4.out.a2
  go_wp2_with fail
  rw [rounds_succ]
  go_wp2_with fail
  have hz4 := S4.out.size
  refine (HR.out w4 A' c' g w.heap.size (revX n (filY 0 false F noM X)) (fun h => ⟨(hgg.out.2 h).1, by have := hgg.out.1; omega, (P4.out h).any0⟩) hz4).mono ?_
  rintro e w5 ⟨ua, ub, uc, ud, rfl, hp, hs, hfr⟩
  have P5 := Lib.hid hp; have S5 := Lib.hid (S4.out.trans hs)
  clear hp hs hfr f0 f1 f2 f3 f4
  go_wp2_with fail
  refine (reverse_any A' n c' g (filY 0 false F noM (revX n (filY 0 false F noM X))) (filY 0 false F noM (revX n (filY 0 false F noM X))) w5 (fun h => ⟨(hgg.out.2 h).1, P5.out h⟩) hn).mono ?_
  rintro e w6 ⟨rfl, hp, ho⟩
  have P6 := Lib.hid hp; have S6 := Lib.hid (S5.out.trans (since_mono ho.1 (show w.heap.size ≤ g by have := hgg.out.1; omega)))
  clear hp ho
  go_wp2_with fail
  rw [rounds_succ]
  go_wp2
  go_ret2
  rw [← hX.out]
  by_cases h0 : 0 < n
  · obtain ⟨rfl, _⟩ := hgg.out.2 h0
    obtain ⟨zs, h1, h2⟩ := (P6.out h0).done0 (lo := w.heap.size) (by have := hgg.out.1; omega)
    exact ⟨⟨some ⟨g, 0, none⟩, n, zs⟩, c', rfl, rfl, h1, h2, S6.out⟩
  · exact ⟨⟨A', n, ys⟩, c', rfl, rfl, ⟨G0.out.1, G0.out.2, fun h => absurd h h0⟩, fun k hk => absurd (Nat.lt_of_le_of_lt (Nat.zero_le _) hk) h0, S6.out⟩
end Go.Proofs.Ytebocaicebolaaa

/- The law of rows of filters: what it needs. -/
set_option linter.unusedVariables false
set_option linter.unusedSimpArgs false
namespace Go.Proofs.Ytebocaicebolaaa
open Fl Go.RowKit
theorem TwoB.rowL {T : TypeId} {w : World} {b : Nat} {m k : MemN} (h : TwoB T w b m k) : w.rangeAt b 0 [.float .f32 m.a, .float .f32 m.b, .float .f32 m.c, .float .f32 m.d] := by
  intro j x hj
  match j with
  | 0 => exact h.c0.trans (by simpa using hj)
  | 1 => exact h.c1.trans (by simpa using hj)
  | 2 => exact h.c2.trans (by simpa using hj)
  | 3 => exact h.c3.trans (by simpa using hj)
  | n + 4 => simp at hj
theorem TwoB.rowR {T : TypeId} {w : World} {b : Nat} {m k : MemN} (h : TwoB T w b m k) : w.rangeAt b 4 [.float .f32 k.a, .float .f32 k.b, .float .f32 k.c, .float .f32 k.d] := by
  intro j x hj
  match j with
  | 0 => exact h.c4.trans (by simpa using hj)
  | 1 => exact h.c5.trans (by simpa using hj)
  | 2 => exact h.c6.trans (by simpa using hj)
  | 3 => exact h.c7.trans (by simpa using hj)
  | n + 4 => simp at hj
namespace Lk
section
variable {P : Program} {ops : Array Oper} {w0 : World} {Q : Fa → Prop} {a : Act} {κ : Nat → Option Kd} {o : Oper} {rest : List Oper} {d : Nat}
/-- a call with one argument known by its properties, and a result so known -/
theorem sCall1K (hg : o.guard = none) (hd : o.dst = some d) (hs : d < a.tmps.size) (f : FuncId) (xs : List Operand) (tys : Array TypeId) (hop : o.op = Op.call ⟨.value (.func f), xs.toArray, tys⟩) (henter : ∀ args w2, (callFunc f args).run P w2 = .ok (.enter f args) w2) (s : Nat) (hin : (.tmp s : Operand) ∈ xs) (K0 : Kd) (hks : κ s = some K0) (V : Value → List Value)
    (hV : ∀ b : Act, (xs.map fun x => match x with | .tmp t => (match κ t with | some _ => b.tmps.getD t undef | none => a.tmps.getD t undef) | y => a.eval y) = V (b.tmps.getD s undef)) (K : Kd) (hb : K.bx = false)
    (hc : ∀ u S w, w0.Since w0.heap.size w → w0.heap.size ≤ w.heap.size → K0.p u S w → (∀ g, S g → g < w.heap.size) → Calls P f (V u).toArray w fun e2 w2 => ∃ u2 S2, e2 = .returned u2 ∧ nb u2 ∧ K.p u2 S2 w2 ∧ w.Since w.heap.size w2 ∧ ∀ g, S2 g → w.heap.size ≤ g ∧ g < w2.heap.size)
    (hK : wpK P ops w0 Q rest ⟨a.put (some d) undef, upd κ d (some K)⟩) : wpK P ops w0 Q (o :: rest) ⟨a, κ⟩ :=
  sCall hg hd hs f xs tys hop henter K hb (fun b fp w hw hN hR => by
    have e := args_eq hR (mem_call hop)
    rw [e]
    have h := (hR s (looks_op (mem_call hop _ hin))).some_ hks
    have := hc _ _ w hw hN h.2.2.1 h.2.2.2.1
    rw [← hV b] at this
    exact this) hK
end
theorem sLen {P : Program} {ops : Array Oper} {w0 : World} {Q : Fa → Prop} {a : Act} {κ : Nat → Option Kd} {o : Oper} {rest : List Oper} {d : Nat} (hg : o.guard = none) (hd : o.dst = some d) (hk : κ d = none) (ho : avoidK ⟨a, κ⟩ o = true) (x : Operand) (t el : TypeId) (hop : o.op = Op.call ⟨.builtin .len, #[x], #[t]⟩) (hu : P.underlying t = some (.slice el)) (A : Option Addr) (n c : Nat) (hx : a.eval x = .slice A n c)
    (hK : wpK P ops w0 Q rest ⟨a.put (some d) (.int .i64 (n : Int)), κ⟩) : wpK P ops w0 Q (o :: rest) ⟨a, κ⟩ :=
  sTold hg hd hk ho _ (fun w hw _ => ⟨w, by
    have e : #[x].map a.eval = #[.slice A n c] := by simp only [List.map_toArray, List.map_cons, List.map_nil, hx]
    unfold execOp
    rw [hop]
    generalize o.type = T
    generalize a.eval = ρ at *
    simp [go_sem, Builtin.len_, hx, hu, underlying], World.Since.refl _ _⟩) hK
/-- a list of numbers -/
def lsK (lo n0 : Nat) (f0 : Nat → O) : Kd where
  p := fun u S w => ∃ (p : Ls) (c : Nat), u = .slice p.A p.n c ∧ p.n = n0 ∧ Are p f0 ∧ EnK lo (fe p.A p.n p.xs) S w
  stable := fun u S w w' h hp => by
    obtain ⟨p, c, e, h1, h2, hb⟩ := hp
    exact ⟨p, c, e, h1, h2, hb.keep h⟩
  bx := false
theorem ls_of {lo n0 : Nat} {f0 : Nat → O} {w w' : World} {e : Ending} (hl : lo ≤ w.heap.size) (h : PL n0 f0 w e w') : ∃ u S, e = .returned u ∧ nb u ∧ (lsK lo n0 f0).p u S w' ∧ w.Since w.heap.size w' ∧ ∀ g, S g → w.heap.size ≤ g ∧ g < w'.heap.size := by
  obtain ⟨p, c, rfl, h1, h2, h3, h5⟩ := h
  have hg := h2.toE
  exact ⟨_, (fe p.A p.n p.xs).S, rfl, trivial, ⟨p, c, rfl, h1, h3, EnK.of hg hl⟩, h5, hg.2.2⟩
end Lk
set_option maxHeartbeats 4000000 in
set_option maxRecDepth 100000 in
theorem r8Turned_any (A : Option Addr) (n c : Nat) (xs : List Nat) (w : World) (hA : Fs w w.heap.size A n xs) (hn : n ≤ 256) :
    Calls Try.prog 49 #[.slice A n c] w (PL n (revX n (fun k => ab .f32 (wd xs k))) w) := by
  have HA := Lib.hid hA; clear hA
  go_enter Try.func49, Try.ntmps49
  go_wp2_with fail
  go_loopw [3, 4] (fun v i wr => ∃ (k : Nat) (z : Int), k ≤ n ∧ Hid (z = (n : Int) - 1 - k) ∧ i = .int .i64 z ∧ Rw w.heap.size wr v k (revX n (fun k => ab .f32 (wd xs k))) ∧ w.Since w.heap.size wr) (fun _ i _ => (intOf i + 1).toNat)
  case atStart => exact ⟨0, _, Nat.zero_le _, Lib.hid (by omega), rfl, Rw.start w _ (Nat.le_refl _) _, (World.Since.refl _ _).alloc (Nat.le_refl _) _⟩
  case round =>
    obtain ⟨k, z, hk, hz, rfl, hr, hs⟩ := hrel
    have HR := Lib.hid hr; have HS := Lib.hid hs
    clear hr hs
    by_cases hlt : k < n
    · obtain ⟨j, rfl⟩ := Int.eq_ofNat_of_zero_le (show 0 ≤ z by have := hz.out; omega)
      have hj : j = n - 1 - k := by have := hz.out; omega
      have HJ := Lib.hid hj; clear hj
      have hjn : j < n := by have := HJ.out; omega
      obtain ⟨g, off, rfl, hg, hc⟩ := HA.out.2.2 (by omega)
      have hcell : wr.cell? ⟨g, off + j, none⟩ = some (.float .f32 (wd xs j)) := (HS.out.cell (a := ⟨g, off + j, none⟩) hg).trans (hc j hjn)
      have hx : Hid (Fv .f32 (wd xs j) (revX n (fun k => ab .f32 (wd xs k)) k)) := Lib.hid ⟨HA.out.2.1.at_ j, by unfold revX; rw [← HJ.out]⟩
      have hsz := HS.out.size
      clear hc
      go_wp2_with (at_builtin; refine wpList_app1 rfl (.tmp 13) (.tmp 18) rfl w.heap.size _ k _ rfl _ _ rfl (by simp [go_sem]) (by omega) (by simp; omega) hx (HR.out.alloc _) ?_; intro v' w3 hR3 hS3)
      go_roundw
      case rel => exact ⟨k + 1, (j : Int) - 1, by omega, Lib.hid (by have := hz.out; omega), by go_num, hR3.out, HS.out.trans (((World.Since.refl _ _).alloc hsz _).trans hS3.out)⟩
      case measure => first | (simp [intOf]; done) | (simp [intOf]; omega)
    · obtain rfl : k = n := by omega
      have hneg : decide (0 ≤ z) = false := decide_eq_false (by have := hz.out; omega)
      obtain ⟨p, cp, rfl, rfl, hg, ha⟩ := HR.out.done
      have HG := Lib.hid hg; have HAA := Lib.hid ha; clear hg ha
      go_wp2
      go_ret
      exact ⟨p, cp, rfl, rfl, HG.out, HAA.out, HS.out⟩
theorem twoF_new (T : TypeId) (w : World) (a b c d e p q r s t : Nat) : TwoF (w.alloc (.cells #[.float .f32 a, .float .f32 b, .float .f32 c, .float .f32 d, .float .f32 e, .float .f32 p, .float .f32 q, .float .f32 r, .float .f32 s, .float .f32 t] T)) w.heap.size ⟨a, b, c, d, e⟩ ⟨p, q, r, s, t⟩ :=
  ⟨by simp, by simp [go_sem], by simp [go_sem], by simp [go_sem], by simp [go_sem], by simp [go_sem], by simp [go_sem], by simp [go_sem], by simp [go_sem], by simp [go_sem], by simp [go_sem]⟩
theorem imp9_fs (T : TypeId) (w : World) : Fs (w.alloc (.cells #[.float .f32 1065353216, .float .f32 0, .float .f32 0, .float .f32 0, .float .f32 0, .float .f32 0, .float .f32 0, .float .f32 0, .float .f32 0] T)) (w.alloc (.cells #[.float .f32 1065353216, .float .f32 0, .float .f32 0, .float .f32 0, .float .f32 0, .float .f32 0, .float .f32 0, .float .f32 0, .float .f32 0] T)).heap.size (some ⟨w.heap.size, 0, none⟩) 9 [1065353216, 0, 0, 0, 0, 0, 0, 0, 0] := by
  refine ⟨by decide, fun x hx => ?_, fun _ => ⟨w.heap.size, 0, rfl, by simp, fun j hj => ?_⟩⟩
  · simp only [List.mem_cons, List.not_mem_nil, or_false] at hx
    rcases hx with rfl | rfl | rfl | rfl | rfl | rfl | rfl | rfl | rfl <;> decide
  · match j, hj with
    | 0, _ => simp [go_sem, fv, wd]
    | 1, _ => simp [go_sem, fv, wd]
    | 2, _ => simp [go_sem, fv, wd]
    | 3, _ => simp [go_sem, fv, wd]
    | 4, _ => simp [go_sem, fv, wd]
    | 5, _ => simp [go_sem, fv, wd]
    | 6, _ => simp [go_sem, fv, wd]
    | 7, _ => simp [go_sem, fv, wd]
    | 8, _ => simp [go_sem, fv, wd]
    | n + 9, h => omega
theorem imp9_ab : ∀ j, j < 9 → ab .f32 (wd [1065353216, 0, 0, 0, 0, 0, 0, 0, 0] j) = impX j
  | 0, _ => by decide
  | 1, _ => by decide
  | 2, _ => by decide
  | 3, _ => by decide
  | 4, _ => by decide
  | 5, _ => by decide
  | 6, _ => by decide
  | 7, _ => by decide
  | 8, _ => by decide
  | n + 9, h => by omega
theorem PLB.lookx {n0 : Nat} {f0 : Nat → O} {w w' : World} {e : Ending} (h : PLB n0 f0 true w e w') : ∃ (A : Option Addr) (c : Nat) (xs : List Nat), e = .returned (.tuple #[.slice A n0 c, .bool true]) ∧ Fs w' w'.heap.size A n0 xs ∧ (∀ j, j < n0 → ab .f32 (wd xs j) = f0 j) ∧ w.Since w.heap.size w' := by
  obtain ⟨⟨pA, pn, px⟩, c, rfl, h1, h3, h5, h8⟩ := h
  change pn = n0 at h1
  subst h1
  exact ⟨pA, c, px, rfl, h3.read, h5, h8⟩
theorem PLMBo.look {n0 : Nat} {f0 : Nat → O} {M : Mem} {w w' : World} {e : Ending} (h : PLMBo n0 f0 M true w e w') : ∃ (A : Option Addr) (c : Nat) (xs : List Nat) (ma mb mc md : Nat), e = .returned (.tuple #[.slice A n0 c, .agg #[.float .f32 ma, .float .f32 mb, .float .f32 mc, .float .f32 md], .bool true]) ∧ Fs w' w'.heap.size A n0 xs ∧ (∀ j, j < n0 → ab .f32 (wd xs j) = f0 j) ∧ FvM ⟨ma, mb, mc, md⟩ M ∧ w.Since w.heap.size w' := by
  obtain ⟨⟨pA, pn, px⟩, c, ⟨ma, mb, mc, md⟩, rfl, h1, h3, h5, h6, h7, _⟩ := h
  change pn = n0 at h1
  subst h1
  exact ⟨pA, c, px, ma, mb, mc, md, rfl, h3.read, h5, h6, h7⟩
theorem PL.like {n0 : Nat} {f0 f1 : Nat → O} {w w' : World} {e : Ending} (h : PL n0 f0 w e w') (hl : ∀ j, j < n0 → f0 j = f1 j) : PL n0 f1 w e w' := by
  obtain ⟨p, c, h1, h2, h3, h4, h5⟩ := h
  exact ⟨p, c, h1, h2, h3, fun j hj => (h4 j hj).trans (hl j (h2 ▸ hj)), h5⟩
theorem PL.look {n0 : Nat} {f0 : Nat → O} {w w' : World} {e : Ending} (h : PL n0 f0 w e w') : ∃ (A : Option Addr) (c : Nat) (xs : List Nat), e = .returned (.slice A n0 c) ∧ Fs w' w'.heap.size A n0 xs ∧ (∀ j, j < n0 → ab .f32 (wd xs j) = f0 j) ∧ w.Since w.heap.size w' := by
  obtain ⟨⟨pA, pn, px⟩, c, rfl, h1, h3, h5, h8⟩ := h
  change pn = n0 at h1
  subst h1
  exact ⟨pA, c, px, rfl, h3.read, h5, h8⟩
end Go.Proofs.Ytebocaicebolaaa

/- The law of rows of filters. -/
set_option linter.unusedVariables false
set_option linter.unusedSimpArgs false
namespace Go.Proofs.Ytebocaicebolaaa
open Fl Go.RowKit
set_option maxHeartbeats 32000000 in
set_option maxRecDepth 100000 in
theorem lawFilterRows_any (A : Option Addr) (n c : Nat) (xs : List Int) (B : Option Addr) (m d : Nat) (ys : List Int) (w : World) (hA : Bs w w.heap.size A n xs) (hB : Bs w w.heap.size B m ys) :
    Calls Try.prog 9 #[.slice A n c, .slice B m d] w fun e w' => e = .returned (.bool true) ∧ w.Since w.heap.size w' := by
  have HA := Lib.hid hA; have HB := Lib.hid hB; clear hA hB
  cases hl : (decide ((48 : Int) < n) || decide ((48 : Int) < m))
  case true =>
    go_enter Try.func9, Try.ntmps9
    go_wp2_with fail
    refine (r8Long_any A B n c m d true w hl).mono ?_
    rintro e w1 ⟨rfl, hs⟩
    have S1 := Lib.hid hs; clear hs
    go_wp2
    go_ret
    exact ⟨rfl, S1.out⟩
  case false =>
    have hnm : n ≤ 48 ∧ m ≤ 48 := by simp only [Bool.or_eq_false_iff, decide_eq_false_iff_not] at hl; omega
    go_enter Try.func9, Try.ntmps9
    go_wp2_with fail
    refine (r8Long_any A B n c m d false w hl).mono ?_
    rintro e w1 ⟨rfl, hs⟩
    have S1 := Lib.hid hs; clear hs hl
    go_wp2_with fail
    refine (r8Filter_any A n c xs w1 ((HA.out.since S1.out (Nat.le_refl _)).more S1.out.size) (by omega)).mono ?_
    rintro e w2 ⟨⟨f0, f1, f2, f3, f4⟩, F, rfl, hF, hs⟩
    have HF := Lib.hid hF
    have S2 := Lib.hid (since_step S1.out hs)
    clear hs S1  hF
    simp only [FilN.val]
    go_wp2_with fail
    generalize hW : World.alloc w2 _ = w3
    obtain ⟨bf, hbf⟩ : ∃ q, Hid (q = w2.heap.size) := ⟨_, Lib.hid rfl⟩
    have Bf : Hid (FilB 31 w3 bf ⟨f0, f1, f2, f3, f4⟩) := Lib.hid (by rw [← hW, hbf.out]; exact FilB.new _ _ _ _ _ _ _)
    have hs : w2.Since w2.heap.size w3 := by rw [← hW]; exact (World.Since.refl _ _).alloc (Nat.le_refl _) _
    have S3 := Lib.hid (since_step S2.out hs)
    clear hs S2  hW
    rw [← hbf.out]; clear hbf
    refine (r8Filter_any B m d ys w3 ((HB.out.since S3.out (Nat.le_refl _)).more S3.out.size) (by omega)).mono ?_
    rintro e w4 ⟨⟨g0, g1, g2, g3, g4⟩, G, rfl, hF, hs⟩
    have HG := Lib.hid hF
    have S4 := Lib.hid (since_step S3.out hs)
    have Bf' := Lib.hid (Bf.out.since hs Bf.out.lt)
    clear hs S3 Bf hF
    have Bf := Bf'; clear Bf'
    simp only [FilN.val]
    go_wp2_with fail
    generalize hW : World.alloc w4 _ = w5
    obtain ⟨bg, hbg⟩ : ∃ q, Hid (q = w4.heap.size) := ⟨_, Lib.hid rfl⟩
    have Bg : Hid (FilB 31 w5 bg ⟨g0, g1, g2, g3, g4⟩) := Lib.hid (by rw [← hW, hbg.out]; exact FilB.new _ _ _ _ _ _ _)
    have hs : w4.Since w4.heap.size w5 := by rw [← hW]; exact (World.Since.refl _ _).alloc (Nat.le_refl _) _
    have S5 := Lib.hid (since_step S4.out hs)
    have Bf' := Lib.hid (Bf.out.since hs Bf.out.lt)
    clear hs S4 Bf hW
    have Bf := Bf'; clear Bf'
    rw [← hbg.out]; clear hbg
    refine (r8Memory_any A n c xs w5 ((HA.out.since S5.out (Nat.le_refl _)).more S5.out.size) (by omega)).mono ?_
    rintro e w6 ⟨⟨m0, m1, m2, m3⟩, M, rfl, hM, hs⟩
    have HM := Lib.hid hM
    have S6 := Lib.hid (since_step S5.out hs)
    have Bf' := Lib.hid (Bf.out.since hs Bf.out.lt)
    have Bg' := Lib.hid (Bg.out.since hs Bg.out.lt)
    clear hs S5 Bf Bg hM
    have Bf := Bf'; clear Bf'
    have Bg := Bg'; clear Bg'
    simp only [MemN.val]
    go_wp2_with fail
    generalize hW : World.alloc w6 _ = w7
    obtain ⟨bm, hbm⟩ : ∃ q, Hid (q = w6.heap.size) := ⟨_, Lib.hid rfl⟩
    have Bm : Hid (MemB 28 w7 bm ⟨m0, m1, m2, m3⟩) := Lib.hid (by rw [← hW, hbm.out]; exact MemB.new _ _ _ _ _ _)
    have hs : w6.Since w6.heap.size w7 := by rw [← hW]; exact (World.Since.refl _ _).alloc (Nat.le_refl _) _
    have S7 := Lib.hid (since_step S6.out hs)
    have Bf' := Lib.hid (Bf.out.since hs Bf.out.lt)
    have Bg' := Lib.hid (Bg.out.since hs Bg.out.lt)
    clear hs S6 Bf Bg hW
    have Bf := Bf'; clear Bf'
    have Bg := Bg'; clear Bg'
    rw [← hbm.out]; clear hbm
    refine (r8Memory_any B m d ys w7 ((HB.out.since S7.out (Nat.le_refl _)).more S7.out.size) (by omega)).mono ?_
    rintro e w8 ⟨⟨k0, k1, k2, k3⟩, K, rfl, hM, hs⟩
    have HK := Lib.hid hM
    have S8 := Lib.hid (since_step S7.out hs)
    have Bf' := Lib.hid (Bf.out.since hs Bf.out.lt)
    have Bg' := Lib.hid (Bg.out.since hs Bg.out.lt)
    have Bm' := Lib.hid (Bm.out.since hs Bm.out.lt)
    clear hs S7 Bf Bg Bm hM
    have Bf := Bf'; clear Bf'
    have Bg := Bg'; clear Bg'
    have Bm := Bm'; clear Bm'
    simp only [MemN.val]
    go_wp2_with fail
    generalize hW : World.alloc w8 _ = w9
    obtain ⟨bk, hbk⟩ : ∃ q, Hid (q = w8.heap.size) := ⟨_, Lib.hid rfl⟩
    have Bk : Hid (MemB 28 w9 bk ⟨k0, k1, k2, k3⟩) := Lib.hid (by rw [← hW, hbk.out]; exact MemB.new _ _ _ _ _ _)
    have hs : w8.Since w8.heap.size w9 := by rw [← hW]; exact (World.Since.refl _ _).alloc (Nat.le_refl _) _
    have S9 := Lib.hid (since_step S8.out hs)
    have Bf' := Lib.hid (Bf.out.since hs Bf.out.lt)
    have Bg' := Lib.hid (Bg.out.since hs Bg.out.lt)
    have Bm' := Lib.hid (Bm.out.since hs Bm.out.lt)
    clear hs S8 Bf Bg Bm hW
    have Bf := Bf'; clear Bf'
    have Bg := Bg'; clear Bg'
    have Bm := Bm'; clear Bm'
    rw [← hbk.out]; clear hbk
    refine (samples_any B m d ys 10 w9 ((HB.out.since S9.out (Nat.le_refl _)).more S9.out.size) (by omega) (by omega)).mono ?_
    rintro e w10 ⟨l, hl, gz, cz, zs, rfl, hcz, hg, hs⟩
    have ZF := Lib.hid hg.read
    have S10 := Lib.hid (since_step S9.out hs)
    have Bf' := Lib.hid (Bf.out.since hs Bf.out.lt)
    have Bg' := Lib.hid (Bg.out.since hs Bg.out.lt)
    have Bm' := Lib.hid (Bm.out.since hs Bm.out.lt)
    have Bk' := Lib.hid (Bk.out.since hs Bk.out.lt)
    clear hs S9 Bf Bg Bm Bk hg
    have Bf := Bf'; clear Bf'
    have Bg := Bg'; clear Bg'
    have Bm := Bm'; clear Bm'
    have Bk := Bk'; clear Bk'
    go_wp2_with fail
    refine (r8At_any A n c xs 40 3 w10 ((HA.out.since S10.out (Nat.le_refl _)).more S10.out.size) (by omega) (by omega)).mono ?_
    rintro e w11 ⟨fm, rfl, e1, e2, hs⟩
    have e3 := e2 (by omega)
    obtain ⟨form, rfl⟩ := Int.eq_ofNat_of_zero_le e1
    have hform : Hid (form ≤ 2) := Lib.hid (by omega)
    have S11 := Lib.hid (since_step S10.out hs)
    have Bf' := Lib.hid (Bf.out.since hs Bf.out.lt)
    have Bg' := Lib.hid (Bg.out.since hs Bg.out.lt)
    have Bm' := Lib.hid (Bm.out.since hs Bm.out.lt)
    have Bk' := Lib.hid (Bk.out.since hs Bk.out.lt)
    have ZF' := Lib.hid ((ZF.out.since hs).more hs.size)
    clear hs S10 Bf Bg Bm Bk ZF e1 e2 e3
    have Bf := Bf'; clear Bf'
    have Bg := Bg'; clear Bg'
    have Bm := Bm'; clear Bm'
    have Bk := Bk'; clear Bk'
    have ZF := ZF'; clear ZF'
    have f0_ := Bf.out.c0; have f1_ := Bf.out.c1; have f2_ := Bf.out.c2; have f3_ := Bf.out.c3; have f4_ := Bf.out.c4
    have g0_ := Bg.out.c0; have g1_ := Bg.out.c1; have g2_ := Bg.out.c2; have g3_ := Bg.out.c3; have g4_ := Bg.out.c4
    have m0_ := Bm.out.c0; have m1_ := Bm.out.c1; have m2_ := Bm.out.c2; have m3_ := Bm.out.c3
    have k0_ := Bk.out.c0; have k1_ := Bk.out.c1; have k2_ := Bk.out.c2; have k3_ := Bk.out.c3
    obtain ⟨Z, hZ⟩ : ∃ Z : Nat → O, Hid (Z = fun j => ab .f32 (wd zs j)) := ⟨_, Lib.hid rfl⟩
    have tm_ := Bm.out.lt; have tk_ := Bk.out.lt
    go_wp2_with fail
    clear f0_ f1_ f2_ f3_ f4_ g0_ g1_ g2_ g3_ g4_ m0_ m1_ m2_ m3_ k0_ k1_ k2_ k3_ tm_ tk_
    generalize hW : World.alloc w11 _ = w12
    generalize hV : World.alloc w12 _ = w13
    have y1 : w12.heap.size = w11.heap.size + 1 := by rw [← hW]; simp
    have s1 : w11.Since w11.heap.size w12 := by rw [← hW]; exact (World.Since.refl _ _).alloc (Nat.le_refl _) _
    have s2 : w12.Since w12.heap.size w13 := by rw [← hV]; exact (World.Since.refl _ _).alloc (Nat.le_refl _) _
    obtain ⟨tf, htf⟩ : ∃ q, Hid (q = w11.heap.size) := ⟨_, Lib.hid rfl⟩
    obtain ⟨tm, htm⟩ : ∃ q, Hid (q = w12.heap.size) := ⟨_, Lib.hid rfl⟩
    have TF0 : TwoF w12 tf ⟨f0, f1, f2, f3, f4⟩ ⟨g0, g1, g2, g3, g4⟩ := by rw [← hW, htf.out]; exact twoF_new _ _ _ _ _ _ _ _ _ _ _ _
    have TF : Hid (TwoF w13 tf ⟨f0, f1, f2, f3, f4⟩ ⟨g0, g1, g2, g3, g4⟩) := Lib.hid (TF0.since (since_mono s2 TF0.lt))
    have TM : Hid (TwoB 28 w13 tm ⟨m0, m1, m2, m3⟩ ⟨k0, k1, k2, k3⟩) := Lib.hid (by rw [← hV, htm.out]; exact TwoB.new _ _ _ _ _ _ _ _ _ _)
    have hs : w11.Since w11.heap.size w13 := s1.trans (since_mono s2 s1.size)
    rw [y1] at htm
    have EF := htf.out; have EM := htm.out
    have S12 := Lib.hid (since_step S11.out hs)
    have Bf' := Lib.hid (Bf.out.since hs Bf.out.lt)
    have Bg' := Lib.hid (Bg.out.since hs Bg.out.lt)
    have Bm' := Lib.hid (Bm.out.since hs Bm.out.lt)
    have Bk' := Lib.hid (Bk.out.since hs Bk.out.lt)
    have ZF' := Lib.hid ((ZF.out.since hs).more hs.size)
    clear hs S11 Bf Bg Bm Bk ZF hW hV s1 s2 TF0 y1 htf htm
    have Bf := Bf'; clear Bf'
    have Bg := Bg'; clear Bg'
    have Bm := Bm'; clear Bm'
    have Bk := Bk'; clear Bk'
    have ZF := ZF'; clear ZF'
    rw [← EM, ← EF]; clear EM EF
    obtain ⟨Y1, hY1⟩ : ∃ Y : Nat → O, Hid (Y = filY form true F M Z) := ⟨_, Lib.hid rfl⟩
    obtain ⟨Y2, hY2⟩ : ∃ Y : Nat → O, Hid (Y = filY form true G K Y1) := ⟨_, Lib.hid rfl⟩
    obtain ⟨M1, hM1⟩ : ∃ X : Mem, Hid (X = filM form true F M Z l) := ⟨_, Lib.hid rfl⟩
    obtain ⟨K1, hK1⟩ : ∃ X : Mem, Hid (X = filM form true G K Y1 l) := ⟨_, Lib.hid rfl⟩
    have Q1 := Lib.hid (implRFs_two form hform.out true ⟨f0, f1, f2, f3, f4⟩ ⟨g0, g1, g2, g3, g4⟩ ⟨m0, m1, m2, m3⟩ ⟨k0, k1, k2, k3⟩ F G M K (some ⟨gz, 0, none⟩) l cz tf tm zs w13 HF.out HG.out HM.out HK.out ZF.out (by omega) TF.out TM.out)
    rw [← hZ.out, ← hY1.out, ← hY2.out, ← hM1.out, ← hK1.out] at Q1
    refine (Q1.out).mono ?_
    rintro e w14 ⟨⟨Ao, no, oo⟩, co, mg, ⟨p0, p1, p2, p3⟩, ⟨q0, q1, q2, q3⟩, rfl, hn, hg, ha, hb, hm, hk, hs, _⟩
    change no = l at hn
    subst hn
    have HP := Lib.hid hm; have HQ := Lib.hid hk; have VO := Lib.hid (show ∀ j, j < no → ab .f32 (wd oo j) = Y2 j from fun j hj => ha j hj)
    have OF := Lib.hid hg.read
    have BT := Lib.hid hb
    have S13 := Lib.hid (since_step S12.out hs)
    have Bf' := Lib.hid (Bf.out.since hs Bf.out.lt)
    have Bg' := Lib.hid (Bg.out.since hs Bg.out.lt)
    have Bm' := Lib.hid (Bm.out.since hs Bm.out.lt)
    have Bk' := Lib.hid (Bk.out.since hs Bk.out.lt)
    have ZF' := Lib.hid ((ZF.out.since hs).more hs.size)
    clear hs S12 Bf Bg Bm Bk ZF hg ha hb hm hk Q1 TF TM
    have Bf := Bf'; clear Bf'
    have Bg := Bg'; clear Bg'
    have Bm := Bm'; clear Bm'
    have Bk := Bk'; clear Bk'
    have ZF := ZF'; clear ZF'
    change no ≤ 10 at hl
    have f0_ := Bf.out.c0; have f1_ := Bf.out.c1; have f2_ := Bf.out.c2; have f3_ := Bf.out.c3; have f4_ := Bf.out.c4
    have m0_ := Bm.out.c0; have m1_ := Bm.out.c1; have m2_ := Bm.out.c2; have m3_ := Bm.out.c3
    have Q1 := Lib.hid (show Calls Try.prog 17 #[.agg #[.float .f32 f0, .float .f32 f1, .float .f32 f2, .float .f32 f3, .float .f32 f4], .int .i64 (form : Int), .bool true, .agg #[.float .f32 m0, .float .f32 m1, .float .f32 m2, .float .f32 m3], .slice (some ⟨gz, 0, none⟩) no cz] w14 (PLMBo no Y1 M1 true w14) from by
      rw [hY1.out, hM1.out, hZ.out]; exact implRF_own form hform.out true ⟨f0, f1, f2, f3, f4⟩ ⟨m0, m1, m2, m3⟩ F M (some ⟨gz, 0, none⟩) no cz zs w14 HF.out HM.out ZF.out (by omega))
    go_wp2_with fail
    refine (Q1.out.mono fun e w' h => h.look).mono ?_
    rintro e w15 ⟨Aa, ca, oa, x0, x1, x2, x3, rfl, hg, ha, hm, hs⟩
    have Hx := Lib.hid hm; have Va := Lib.hid ha
    have Fa := Lib.hid hg
    have S14 := Lib.hid (since_step S13.out hs)
    have Bf' := Lib.hid (Bf.out.since hs Bf.out.lt)
    have Bg' := Lib.hid (Bg.out.since hs Bg.out.lt)
    have Bm' := Lib.hid (Bm.out.since hs Bm.out.lt)
    have Bk' := Lib.hid (Bk.out.since hs Bk.out.lt)
    have ZF' := Lib.hid ((ZF.out.since hs).more hs.size)
    have OF' := Lib.hid ((OF.out.since hs).more hs.size)
    have BT' := Lib.hid (BT.out.since hs BT.out.lt)
    clear hs S13 Bf Bg Bm Bk ZF OF BT Q1 hg ha hm f0_ f1_ f2_ f3_ f4_ m0_ m1_ m2_ m3_
    have Bf := Bf'; clear Bf'
    have Bg := Bg'; clear Bg'
    have Bm := Bm'; clear Bm'
    have Bk := Bk'; clear Bk'
    have ZF := ZF'; clear ZF'
    have OF := OF'; clear OF'
    have BT := BT'; clear BT'
    have g0_ := Bg.out.c0; have g1_ := Bg.out.c1; have g2_ := Bg.out.c2; have g3_ := Bg.out.c3; have g4_ := Bg.out.c4
    have k0_ := Bk.out.c0; have k1_ := Bk.out.c1; have k2_ := Bk.out.c2; have k3_ := Bk.out.c3
    have tg_ := Bg.out.lt
    have tk_ := Bk.out.lt
    go_wp2_with fail
    generalize hW : World.alloc w15 _ = w16
    obtain ⟨bx, hbx⟩ : ∃ q, Hid (q = w15.heap.size) := ⟨_, Lib.hid rfl⟩
    have Bx : Hid (MemB 28 w16 bx ⟨x0, x1, x2, x3⟩) := Lib.hid (by rw [← hW, hbx.out]; exact MemB.new _ _ _ _ _ _)
    have hs : w15.Since w15.heap.size w16 := by rw [← hW]; exact (World.Since.refl _ _).alloc (Nat.le_refl _) _
    have S15 := Lib.hid (since_step S14.out hs)
    have Bf' := Lib.hid (Bf.out.since hs Bf.out.lt)
    have Bg' := Lib.hid (Bg.out.since hs Bg.out.lt)
    have Bm' := Lib.hid (Bm.out.since hs Bm.out.lt)
    have Bk' := Lib.hid (Bk.out.since hs Bk.out.lt)
    have ZF' := Lib.hid ((ZF.out.since hs).more hs.size)
    have OF' := Lib.hid ((OF.out.since hs).more hs.size)
    have BT' := Lib.hid (BT.out.since hs BT.out.lt)
    have Fa' := Lib.hid ((Fa.out.since hs).more hs.size)
    clear hs S14 Bf Bg Bm Bk ZF OF BT Fa hW
    have Bf := Bf'; clear Bf'
    have Bg := Bg'; clear Bg'
    have Bm := Bm'; clear Bm'
    have Bk := Bk'; clear Bk'
    have ZF := ZF'; clear ZF'
    have OF := OF'; clear OF'
    have BT := BT'; clear BT'
    have Fa := Fa'; clear Fa'
    rw [← hbx.out]; clear hbx
    have l1 : ∀ j, j < no → (fun j => ab .f32 (wd oa j)) j = Y1 j := fun j hj => Va.out j hj
    have Q1 := Lib.hid (show Calls Try.prog 17 #[.agg #[.float .f32 g0, .float .f32 g1, .float .f32 g2, .float .f32 g3, .float .f32 g4], .int .i64 (form : Int), .bool true, .agg #[.float .f32 k0, .float .f32 k1, .float .f32 k2, .float .f32 k3], .slice Aa no ca] w16 (PLMBo no Y2 K1 true w16) from by
      rw [hY2.out, hK1.out, ← filM_like l1 no (Nat.le_refl _)]; exact (implRF_own form hform.out true ⟨g0, g1, g2, g3, g4⟩ ⟨k0, k1, k2, k3⟩ G K Aa no ca oa w16 HG.out HK.out Fa.out (by omega)).mono fun e w2 h2 => PLMBo.like h2 fun j hj => filY_like l1 j hj)
    refine (Q1.out.mono fun e w' h => h.look).mono ?_
    rintro e w17 ⟨Ab, cb, ob, y0, y1, y2, y3, rfl, hg, ha, hm, hs⟩
    have Hy := Lib.hid hm; have Vb := Lib.hid ha
    have Fb := Lib.hid hg
    have S16 := Lib.hid (since_step S15.out hs)
    have Bf' := Lib.hid (Bf.out.since hs Bf.out.lt)
    have Bg' := Lib.hid (Bg.out.since hs Bg.out.lt)
    have Bm' := Lib.hid (Bm.out.since hs Bm.out.lt)
    have Bk' := Lib.hid (Bk.out.since hs Bk.out.lt)
    have ZF' := Lib.hid ((ZF.out.since hs).more hs.size)
    have OF' := Lib.hid ((OF.out.since hs).more hs.size)
    have BT' := Lib.hid (BT.out.since hs BT.out.lt)
    have Fa' := Lib.hid ((Fa.out.since hs).more hs.size)
    have Bx' := Lib.hid (Bx.out.since hs Bx.out.lt)
    clear hs S15 Bf Bg Bm Bk ZF OF BT Fa Bx Q1 hg ha hm g0_ g1_ g2_ g3_ g4_ k0_ k1_ k2_ k3_ tg_ tk_ l1
    have Bf := Bf'; clear Bf'
    have Bg := Bg'; clear Bg'
    have Bm := Bm'; clear Bm'
    have Bk := Bk'; clear Bk'
    have ZF := ZF'; clear ZF'
    have OF := OF'; clear OF'
    have BT := BT'; clear BT'
    have Fa := Fa'; clear Fa'
    have Bx := Bx'; clear Bx'
    go_wp2_with fail
    generalize hW : World.alloc w17 _ = w18
    obtain ⟨bya, hbya⟩ : ∃ q, Hid (q = w17.heap.size) := ⟨_, Lib.hid rfl⟩
    have Bya : Hid (MemB 28 w18 bya ⟨y0, y1, y2, y3⟩) := Lib.hid (by rw [← hW, hbya.out]; exact MemB.new _ _ _ _ _ _)
    have hs : w17.Since w17.heap.size w18 := by rw [← hW]; exact (World.Since.refl _ _).alloc (Nat.le_refl _) _
    have S17 := Lib.hid (since_step S16.out hs)
    have Bf' := Lib.hid (Bf.out.since hs Bf.out.lt)
    have Bg' := Lib.hid (Bg.out.since hs Bg.out.lt)
    have Bm' := Lib.hid (Bm.out.since hs Bm.out.lt)
    have Bk' := Lib.hid (Bk.out.since hs Bk.out.lt)
    have ZF' := Lib.hid ((ZF.out.since hs).more hs.size)
    have OF' := Lib.hid ((OF.out.since hs).more hs.size)
    have BT' := Lib.hid (BT.out.since hs BT.out.lt)
    have Fa' := Lib.hid ((Fa.out.since hs).more hs.size)
    have Bx' := Lib.hid (Bx.out.since hs Bx.out.lt)
    have Fb' := Lib.hid ((Fb.out.since hs).more hs.size)
    clear hs S16 Bf Bg Bm Bk ZF OF BT Fa Bx Fb hW
    have Bf := Bf'; clear Bf'
    have Bg := Bg'; clear Bg'
    have Bm := Bm'; clear Bm'
    have Bk := Bk'; clear Bk'
    have ZF := ZF'; clear ZF'
    have OF := OF'; clear OF'
    have BT := BT'; clear BT'
    have Fa := Fa'; clear Fa'
    have Bx := Bx'; clear Bx'
    have Fb := Fb'; clear Fb'
    rw [← hbya.out]; clear hbya
    have C1 := Lib.hid (show ∀ v, w18.Since w18.heap.size v → Calls Try.prog 44 #[.slice Ao no co, .slice Ab no cb] v (fun e w' => e = .returned (.bool true) ∧ v.Since v.heap.size w') from fun v hv => r8Same_any Ao Ab no co cb oo ob v ((OF.out.since hv).more hv.size) ((Fb.out.since hv).more hv.size) (by omega) (fun j hj => (VO.out j hj).trans (Vb.out j hj).symm))
    have C2 := Lib.hid (fun v => implSM_eq ⟨p0, p1, p2, p3⟩ ⟨x0, x1, x2, x3⟩ M1 v HP.out Hx.out)
    have C3 := Lib.hid (fun v => implSM_eq ⟨q0, q1, q2, q3⟩ ⟨y0, y1, y2, y3⟩ K1 v HQ.out Hy.out)
    refine Lk.wp_k (by kernel_rfl) (by kernel_rfl) (by kernel_rfl) ?_
    repeat (first
      | (refine Lk.sYes rfl rfl ?_; dsimp only)
      | (refine Lk.sLen rfl rfl rfl rfl _ _ _ rfl Try.underlying51 _ _ _ rfl ?_; (try simp only [Act.eval, Act.put, Lk.Va.val, Lk.Va.kd, List.setIfInBounds_toArray, List.set_cons_succ, List.set_cons_zero, Array.getD_eq_getD_getElem?, List.getElem?_toArray, List.getElem?_cons_succ, List.getElem?_cons_zero, Option.getD_some]))
      | (refine Lk.sRow rfl rfl rfl rfl 28 _ rfl mg 0 rfl [.float .f32 p0, .float .f32 p1, .float .f32 p2, .float .f32 p3] _ Try.underlying28 rfl (by kernel_rfl) (fun v hv => Lo.range_since BT.out.rowL hv BT.out.lt) ?_; (try simp only [Act.eval, Act.put, Lk.Va.val, Lk.Va.kd, List.setIfInBounds_toArray, List.set_cons_succ, List.set_cons_zero, Array.getD_eq_getD_getElem?, List.getElem?_toArray, List.getElem?_cons_succ, List.getElem?_cons_zero, Option.getD_some]))
      | (refine Lk.sRow rfl rfl rfl rfl 28 _ rfl mg 4 rfl [.float .f32 q0, .float .f32 q1, .float .f32 q2, .float .f32 q3] _ Try.underlying28 rfl (by kernel_rfl) (fun v hv => Lo.range_since BT.out.rowR hv BT.out.lt) ?_; (try simp only [Act.eval, Act.put, Lk.Va.val, Lk.Va.kd, List.setIfInBounds_toArray, List.set_cons_succ, List.set_cons_zero, Array.getD_eq_getD_getElem?, List.getElem?_toArray, List.getElem?_cons_succ, List.getElem?_cons_zero, Option.getD_some]))
      | (refine Lk.sRow rfl rfl rfl rfl 28 _ rfl bx 0 rfl [.float .f32 x0, .float .f32 x1, .float .f32 x2, .float .f32 x3] _ Try.underlying28 rfl (by kernel_rfl) (fun v hv => Lo.range_since Bx.out.row hv Bx.out.lt) ?_; (try simp only [Act.eval, Act.put, Lk.Va.val, Lk.Va.kd, List.setIfInBounds_toArray, List.set_cons_succ, List.set_cons_zero, Array.getD_eq_getD_getElem?, List.getElem?_toArray, List.getElem?_cons_succ, List.getElem?_cons_zero, Option.getD_some]))
      | (refine Lk.sRow rfl rfl rfl rfl 28 _ rfl bya 0 rfl [.float .f32 y0, .float .f32 y1, .float .f32 y2, .float .f32 y3] _ Try.underlying28 rfl (by kernel_rfl) (fun v hv => Lo.range_since Bya.out.row hv Bya.out.lt) ?_; (try simp only [Act.eval, Act.put, Lk.Va.val, Lk.Va.kd, List.setIfInBounds_toArray, List.set_cons_succ, List.set_cons_zero, Array.getD_eq_getD_getElem?, List.getElem?_toArray, List.getElem?_cons_succ, List.getElem?_cons_zero, Option.getD_some]))
      | (refine Lk.sCallV rfl rfl rfl 44 [.tmp 90, .tmp 91] _ rfl (callsEnter 44 Try.f44 _ (by kernel_rfl) (by kernel_rfl) rfl) rfl [.slice Ao no co, .slice Ab no cb] rfl (.bool true) (fun v hv hN => C1.out v hv) ?_; (try simp only [Act.eval, Act.put, Lk.Va.val, Lk.Va.kd, List.setIfInBounds_toArray, List.set_cons_succ, List.set_cons_zero, Array.getD_eq_getD_getElem?, List.getElem?_toArray, List.getElem?_cons_succ, List.getElem?_cons_zero, Option.getD_some]))
      | (refine Lk.sCallV rfl rfl rfl 45 [.tmp 103, .tmp 104] _ rfl (callsEnter 45 Try.f45 _ (by kernel_rfl) (by kernel_rfl) rfl) rfl [.agg #[.float .f32 p0, .float .f32 p1, .float .f32 p2, .float .f32 p3], .agg #[.float .f32 x0, .float .f32 x1, .float .f32 x2, .float .f32 x3]] rfl (.bool true) (fun v hv hN => C2.out v) ?_; (try simp only [Act.eval, Act.put, Lk.Va.val, Lk.Va.kd, List.setIfInBounds_toArray, List.set_cons_succ, List.set_cons_zero, Array.getD_eq_getD_getElem?, List.getElem?_toArray, List.getElem?_cons_succ, List.getElem?_cons_zero, Option.getD_some]))
      | (refine Lk.sCallV rfl rfl rfl 45 [.tmp 111, .tmp 112] _ rfl (callsEnter 45 Try.f45 _ (by kernel_rfl) (by kernel_rfl) rfl) rfl [.agg #[.float .f32 q0, .float .f32 q1, .float .f32 q2, .float .f32 q3], .agg #[.float .f32 y0, .float .f32 y1, .float .f32 y2, .float .f32 y3]] rfl (.bool true) (fun v hv hN => C3.out v) ?_; (try simp only [Act.eval, Act.put, Lk.Va.val, Lk.Va.kd, List.setIfInBounds_toArray, List.set_cons_succ, List.set_cons_zero, Array.getD_eq_getD_getElem?, List.getElem?_toArray, List.getElem?_cons_succ, List.getElem?_cons_zero, Option.getD_some]))
      | (refine Lk.sMove rfl rfl rfl rfl _ (.inl rfl) ?_; simp only [Act.eval, Act.put, Lk.Va.val, Lk.Va.kd, List.setIfInBounds_toArray, List.set_cons_succ, List.set_cons_zero, Array.getD_eq_getD_getElem?, List.getElem?_toArray, List.getElem?_cons_succ, List.getElem?_cons_zero, Option.getD_some])
      | (refine Lk.sMove rfl rfl rfl rfl _ (.inr rfl) ?_; simp only [Act.eval, Act.put, Lk.Va.val, Lk.Va.kd, List.setIfInBounds_toArray, List.set_cons_succ, List.set_cons_zero, Array.getD_eq_getD_getElem?, List.getElem?_toArray, List.getElem?_cons_succ, List.getElem?_cons_zero, Option.getD_some])
      | (refine Lk.sCopy rfl rfl (of_decide_eq_true rfl) _ (.inl rfl) _ rfl rfl ?_; simp only [Act.eval, Act.put, Lk.Va.val, Lk.Va.kd, List.setIfInBounds_toArray, List.set_cons_succ, List.set_cons_zero, Array.getD_eq_getD_getElem?, List.getElem?_toArray, List.getElem?_cons_succ, List.getElem?_cons_zero, Option.getD_some])
      | (refine Lk.sCopy rfl rfl (of_decide_eq_true rfl) _ (.inr rfl) _ rfl rfl ?_; simp only [Act.eval, Act.put, Lk.Va.val, Lk.Va.kd, List.setIfInBounds_toArray, List.set_cons_succ, List.set_cons_zero, Array.getD_eq_getD_getElem?, List.getElem?_toArray, List.getElem?_cons_succ, List.getElem?_cons_zero, Option.getD_some])
      | (refine Lk.sQuiet rfl rfl rfl rfl rfl (fun K hK => ?_); go_big_quiet_op; first | (with_reducible refine ⟨_, fun _ _ => rfl, hK _ ?_⟩; clear hK K) | (refine hK _ ?_; clear hK K)))
    refine Lk.wpK_nil ?_
    refine Lk.After.end_ [] (by repeat (first | exact Lk.nbut.start | refine Lk.nbut.upd (by simp) ?_)) rfl ?_
    intro fpK wK hwK
    have hs := hwK
    have S18 := Lib.hid (since_step S17.out hs)
    have Bf' := Lib.hid (Bf.out.since hs Bf.out.lt)
    have Bg' := Lib.hid (Bg.out.since hs Bg.out.lt)
    have Bm' := Lib.hid (Bm.out.since hs Bm.out.lt)
    have Bk' := Lib.hid (Bk.out.since hs Bk.out.lt)
    have ZF' := Lib.hid ((ZF.out.since hs).more hs.size)
    have OF' := Lib.hid ((OF.out.since hs).more hs.size)
    have BT' := Lib.hid (BT.out.since hs BT.out.lt)
    have Fa' := Lib.hid ((Fa.out.since hs).more hs.size)
    have Bx' := Lib.hid (Bx.out.since hs Bx.out.lt)
    have Fb' := Lib.hid ((Fb.out.since hs).more hs.size)
    have Bya' := Lib.hid (Bya.out.since hs Bya.out.lt)
    clear hs S17 Bf Bg Bm Bk ZF OF BT Fa Bx Fb Bya hwK fpK C1 C2 C3
    have Bf := Bf'; clear Bf'
    have Bg := Bg'; clear Bg'
    have Bm := Bm'; clear Bm'
    have Bk := Bk'; clear Bk'
    have ZF := ZF'; clear ZF'
    have OF := OF'; clear OF'
    have BT := BT'; clear BT'
    have Fa := Fa'; clear Fa'
    have Bx := Bx'; clear Bx'
    have Fb := Fb'; clear Fb'
    have Bya := Bya'; clear Bya'
    have f0_ := Bf.out.c0; have f1_ := Bf.out.c1; have f2_ := Bf.out.c2; have f3_ := Bf.out.c3; have f4_ := Bf.out.c4
    obtain ⟨YI, hYI⟩ : ∃ Y : Nat → O, Hid (Y = filY form false F noM impX) := ⟨_, Lib.hid rfl⟩
    have Q1 := Lib.hid (show Calls Try.prog 23 #[.agg #[.float .f32 f0, .float .f32 f1, .float .f32 f2, .float .f32 f3, .float .f32 f4], .int .i64 (form : Int), .int .i64 9] wK (PLB 9 YI true wK) from by
      rw [hYI.out]; exact implImp_ok form hform.out ⟨f0, f1, f2, f3, f4⟩ F 9 wK HF.out (by omega))
    go_wp2_with fail
    refine (Q1.out.mono fun e w' h => h.lookx).mono ?_
    rintro e w19 ⟨Ai, ci, oi, rfl, hg, ha, hs⟩
    have Vi := Lib.hid ha
    have Fi := Lib.hid hg
    have S19 := Lib.hid (since_step S18.out hs)
    have Bf' := Lib.hid (Bf.out.since hs Bf.out.lt)
    have Bg' := Lib.hid (Bg.out.since hs Bg.out.lt)
    have Bm' := Lib.hid (Bm.out.since hs Bm.out.lt)
    have Bk' := Lib.hid (Bk.out.since hs Bk.out.lt)
    have ZF' := Lib.hid ((ZF.out.since hs).more hs.size)
    have OF' := Lib.hid ((OF.out.since hs).more hs.size)
    have BT' := Lib.hid (BT.out.since hs BT.out.lt)
    have Fa' := Lib.hid ((Fa.out.since hs).more hs.size)
    have Bx' := Lib.hid (Bx.out.since hs Bx.out.lt)
    have Fb' := Lib.hid ((Fb.out.since hs).more hs.size)
    have Bya' := Lib.hid (Bya.out.since hs Bya.out.lt)
    clear hs S18 Bf Bg Bm Bk ZF OF BT Fa Bx Fb Bya Q1 hg ha f0_ f1_ f2_ f3_ f4_
    have Bf := Bf'; clear Bf'
    have Bg := Bg'; clear Bg'
    have Bm := Bm'; clear Bm'
    have Bk := Bk'; clear Bk'
    have ZF := ZF'; clear ZF'
    have OF := OF'; clear OF'
    have BT := BT'; clear BT'
    have Fa := Fa'; clear Fa'
    have Bx := Bx'; clear Bx'
    have Fb := Fb'; clear Fb'
    have Bya := Bya'; clear Bya'
    have f0_ := Bf.out.c0; have f1_ := Bf.out.c1; have f2_ := Bf.out.c2; have f3_ := Bf.out.c3; have f4_ := Bf.out.c4
    go_wp2_with fail
    generalize hW : World.alloc w19 _ = w20
    obtain ⟨gp, hgp⟩ : ∃ q, Hid (q = w19.heap.size) := ⟨_, Lib.hid rfl⟩
    have PF : Hid (Fs w20 w20.heap.size (some ⟨gp, 0, none⟩) 9 [1065353216, 0, 0, 0, 0, 0, 0, 0, 0]) := Lib.hid (by rw [← hW, hgp.out]; exact imp9_fs _ _)
    have hs : w19.Since w19.heap.size w20 := by rw [← hW]; exact (World.Since.refl _ _).alloc (Nat.le_refl _) _
    have S20 := Lib.hid (since_step S19.out hs)
    have Bf' := Lib.hid (Bf.out.since hs Bf.out.lt)
    have Bg' := Lib.hid (Bg.out.since hs Bg.out.lt)
    have Bm' := Lib.hid (Bm.out.since hs Bm.out.lt)
    have Bk' := Lib.hid (Bk.out.since hs Bk.out.lt)
    have ZF' := Lib.hid ((ZF.out.since hs).more hs.size)
    have OF' := Lib.hid ((OF.out.since hs).more hs.size)
    have BT' := Lib.hid (BT.out.since hs BT.out.lt)
    have Fa' := Lib.hid ((Fa.out.since hs).more hs.size)
    have Bx' := Lib.hid (Bx.out.since hs Bx.out.lt)
    have Fb' := Lib.hid ((Fb.out.since hs).more hs.size)
    have Bya' := Lib.hid (Bya.out.since hs Bya.out.lt)
    have Fi' := Lib.hid ((Fi.out.since hs).more hs.size)
    clear hs S19 Bf Bg Bm Bk ZF OF BT Fa Bx Fb Bya Fi hW f0_ f1_ f2_ f3_ f4_
    have Bf := Bf'; clear Bf'
    have Bg := Bg'; clear Bg'
    have Bm := Bm'; clear Bm'
    have Bk := Bk'; clear Bk'
    have ZF := ZF'; clear ZF'
    have OF := OF'; clear OF'
    have BT := BT'; clear BT'
    have Fa := Fa'; clear Fa'
    have Bx := Bx'; clear Bx'
    have Fb := Fb'; clear Fb'
    have Bya := Bya'; clear Bya'
    have Fi := Fi'; clear Fi'
    rw [← hgp.out]; clear hgp
    obtain ⟨MI, hMI⟩ : ∃ X : Mem, Hid (X = filM form false F noM impX 9) := ⟨_, Lib.hid rfl⟩
    have Q1 := Lib.hid (show Calls Try.prog 17 #[.agg #[.float .f32 f0, .float .f32 f1, .float .f32 f2, .float .f32 f3, .float .f32 f4], .int .i64 (form : Int), .bool false, .agg #[.float .f32 0, .float .f32 0, .float .f32 0, .float .f32 0], .slice (some ⟨gp, 0, none⟩) 9 9] w20 (PLMBo 9 YI MI true w20) from by
      rw [hYI.out, hMI.out, ← filM_like imp9_ab 9 (Nat.le_refl _)]; exact (implRF_own form hform.out false ⟨f0, f1, f2, f3, f4⟩ ⟨0, 0, 0, 0⟩ F noM (some ⟨gp, 0, none⟩) 9 9 [1065353216, 0, 0, 0, 0, 0, 0, 0, 0] w20 HF.out noM_fv PF.out (by omega)).mono fun e w2 h2 => PLMBo.like h2 fun j hj => filY_like imp9_ab j hj)
    refine (Q1.out.mono fun e w' h => h.look).mono ?_
    rintro e w21 ⟨Ao, co, oo, r0, r1, r2, r3, rfl, hg, ha, hm, hs⟩
    have Hr := Lib.hid hm; have Vo := Lib.hid ha
    have Fo := Lib.hid hg
    have S21 := Lib.hid (since_step S20.out hs)
    have Bf' := Lib.hid (Bf.out.since hs Bf.out.lt)
    have Bg' := Lib.hid (Bg.out.since hs Bg.out.lt)
    have Bm' := Lib.hid (Bm.out.since hs Bm.out.lt)
    have Bk' := Lib.hid (Bk.out.since hs Bk.out.lt)
    have ZF' := Lib.hid ((ZF.out.since hs).more hs.size)
    have OF' := Lib.hid ((OF.out.since hs).more hs.size)
    have BT' := Lib.hid (BT.out.since hs BT.out.lt)
    have Fa' := Lib.hid ((Fa.out.since hs).more hs.size)
    have Bx' := Lib.hid (Bx.out.since hs Bx.out.lt)
    have Fb' := Lib.hid ((Fb.out.since hs).more hs.size)
    have Bya' := Lib.hid (Bya.out.since hs Bya.out.lt)
    have Fi' := Lib.hid ((Fi.out.since hs).more hs.size)
    have PF' := Lib.hid ((PF.out.since hs).more hs.size)
    clear hs S20 Bf Bg Bm Bk ZF OF BT Fa Bx Fb Bya Fi PF Q1 hg ha hm 
    have Bf := Bf'; clear Bf'
    have Bg := Bg'; clear Bg'
    have Bm := Bm'; clear Bm'
    have Bk := Bk'; clear Bk'
    have ZF := ZF'; clear ZF'
    have OF := OF'; clear OF'
    have BT := BT'; clear BT'
    have Fa := Fa'; clear Fa'
    have Bx := Bx'; clear Bx'
    have Fb := Fb'; clear Fb'
    have Bya := Bya'; clear Bya'
    have Fi := Fi'; clear Fi'
    have PF := PF'; clear PF'
    have f0_ := Bf.out.c0; have f1_ := Bf.out.c1; have f2_ := Bf.out.c2; have f3_ := Bf.out.c3; have f4_ := Bf.out.c4
    have tf_ := Bf.out.lt
    go_wp2_with fail
    generalize hW : World.alloc w21 _ = w22
    obtain ⟨br, hbr⟩ : ∃ q, Hid (q = w21.heap.size) := ⟨_, Lib.hid rfl⟩
    have Br : Hid (MemB 28 w22 br ⟨r0, r1, r2, r3⟩) := Lib.hid (by rw [← hW, hbr.out]; exact MemB.new _ _ _ _ _ _)
    have hs : w21.Since w21.heap.size w22 := by rw [← hW]; exact (World.Since.refl _ _).alloc (Nat.le_refl _) _
    have S22 := Lib.hid (since_step S21.out hs)
    have Bf' := Lib.hid (Bf.out.since hs Bf.out.lt)
    have Bg' := Lib.hid (Bg.out.since hs Bg.out.lt)
    have Bm' := Lib.hid (Bm.out.since hs Bm.out.lt)
    have Bk' := Lib.hid (Bk.out.since hs Bk.out.lt)
    have ZF' := Lib.hid ((ZF.out.since hs).more hs.size)
    have OF' := Lib.hid ((OF.out.since hs).more hs.size)
    have BT' := Lib.hid (BT.out.since hs BT.out.lt)
    have Fa' := Lib.hid ((Fa.out.since hs).more hs.size)
    have Bx' := Lib.hid (Bx.out.since hs Bx.out.lt)
    have Fb' := Lib.hid ((Fb.out.since hs).more hs.size)
    have Bya' := Lib.hid (Bya.out.since hs Bya.out.lt)
    have Fi' := Lib.hid ((Fi.out.since hs).more hs.size)
    have PF' := Lib.hid ((PF.out.since hs).more hs.size)
    have Fo' := Lib.hid ((Fo.out.since hs).more hs.size)
    clear hs S21 Bf Bg Bm Bk ZF OF BT Fa Bx Fb Bya Fi PF Fo hW
    have Bf := Bf'; clear Bf'
    have Bg := Bg'; clear Bg'
    have Bm := Bm'; clear Bm'
    have Bk := Bk'; clear Bk'
    have ZF := ZF'; clear ZF'
    have OF := OF'; clear OF'
    have BT := BT'; clear BT'
    have Fa := Fa'; clear Fa'
    have Bx := Bx'; clear Bx'
    have Fb := Fb'; clear Fb'
    have Bya := Bya'; clear Bya'
    have Fi := Fi'; clear Fi'
    have PF := PF'; clear PF'
    have Fo := Fo'; clear Fo'
    rw [← hbr.out]; clear hbr
    obtain ⟨YB, hYB⟩ : ∃ Y : Nat → O, Hid (Y = bothX F no Z) := ⟨_, Lib.hid rfl⟩
    have Q1 := Lib.hid (show Calls Try.prog 25 #[.agg #[.float .f32 f0, .float .f32 f1, .float .f32 f2, .float .f32 f3, .float .f32 f4], .slice (some ⟨gz, 0, none⟩) no cz] w22 (PLB no YB true w22) from by
      rw [hYB.out, hZ.out]; exact implFBW_ok ⟨f0, f1, f2, f3, f4⟩ F _ no cz zs w22 HF.out ZF.out (by omega))
    refine (Q1.out.mono fun e w' h => h.lookx).mono ?_
    rintro e w23 ⟨Ac, cc, oc, rfl, hg, ha, hs⟩
    have Vc := Lib.hid ha
    have Fc := Lib.hid hg
    have S23 := Lib.hid (since_step S22.out hs)
    have Bf' := Lib.hid (Bf.out.since hs Bf.out.lt)
    have Bg' := Lib.hid (Bg.out.since hs Bg.out.lt)
    have Bm' := Lib.hid (Bm.out.since hs Bm.out.lt)
    have Bk' := Lib.hid (Bk.out.since hs Bk.out.lt)
    have ZF' := Lib.hid ((ZF.out.since hs).more hs.size)
    have OF' := Lib.hid ((OF.out.since hs).more hs.size)
    have BT' := Lib.hid (BT.out.since hs BT.out.lt)
    have Fa' := Lib.hid ((Fa.out.since hs).more hs.size)
    have Bx' := Lib.hid (Bx.out.since hs Bx.out.lt)
    have Fb' := Lib.hid ((Fb.out.since hs).more hs.size)
    have Bya' := Lib.hid (Bya.out.since hs Bya.out.lt)
    have Fi' := Lib.hid ((Fi.out.since hs).more hs.size)
    have PF' := Lib.hid ((PF.out.since hs).more hs.size)
    have Fo' := Lib.hid ((Fo.out.since hs).more hs.size)
    have Br' := Lib.hid (Br.out.since hs Br.out.lt)
    clear hs S22 Bf Bg Bm Bk ZF OF BT Fa Bx Fb Bya Fi PF Fo Br Q1 hg ha f0_ f1_ f2_ f3_ f4_ tf_
    have Bf := Bf'; clear Bf'
    have Bg := Bg'; clear Bg'
    have Bm := Bm'; clear Bm'
    have Bk := Bk'; clear Bk'
    have ZF := ZF'; clear ZF'
    have OF := OF'; clear OF'
    have BT := BT'; clear BT'
    have Fa := Fa'; clear Fa'
    have Bx := Bx'; clear Bx'
    have Fb := Fb'; clear Fb'
    have Bya := Bya'; clear Bya'
    have Fi := Fi'; clear Fi'
    have PF := PF'; clear PF'
    have Fo := Fo'; clear Fo'
    have Br := Br'; clear Br'
    have f0_ := Bf.out.c0; have f1_ := Bf.out.c1; have f2_ := Bf.out.c2; have f3_ := Bf.out.c3; have f4_ := Bf.out.c4
    obtain ⟨Y3, hY3⟩ : ∃ Y : Nat → O, Hid (Y = filY 0 false F noM Z) := ⟨_, Lib.hid rfl⟩
    obtain ⟨M3, hM3⟩ : ∃ X : Mem, Hid (X = filM 0 false F noM Z no) := ⟨_, Lib.hid rfl⟩
    have Q1 := Lib.hid (show Calls Try.prog 17 #[.agg #[.float .f32 f0, .float .f32 f1, .float .f32 f2, .float .f32 f3, .float .f32 f4], .int .i64 0, .bool false, .agg #[.float .f32 0, .float .f32 0, .float .f32 0, .float .f32 0], .slice (some ⟨gz, 0, none⟩) no cz] w23 (PLMBo no Y3 M3 true w23) from by
      rw [hY3.out, hM3.out, hZ.out]; exact implRF_own 0 (by decide) false ⟨f0, f1, f2, f3, f4⟩ ⟨0, 0, 0, 0⟩ F noM (some ⟨gz, 0, none⟩) no cz zs w23 HF.out noM_fv ZF.out (by omega))
    go_wp2_with fail
    refine (Q1.out.mono fun e w' h => h.look).mono ?_
    rintro e w24 ⟨Ad, cd, od, s0, s1, s2, s3, rfl, hg, ha, hm, hs⟩
    have Hs := Lib.hid hm; have Vd := Lib.hid ha
    have Fd := Lib.hid hg
    have S24 := Lib.hid (since_step S23.out hs)
    have Bf' := Lib.hid (Bf.out.since hs Bf.out.lt)
    have Bg' := Lib.hid (Bg.out.since hs Bg.out.lt)
    have Bm' := Lib.hid (Bm.out.since hs Bm.out.lt)
    have Bk' := Lib.hid (Bk.out.since hs Bk.out.lt)
    have ZF' := Lib.hid ((ZF.out.since hs).more hs.size)
    have OF' := Lib.hid ((OF.out.since hs).more hs.size)
    have BT' := Lib.hid (BT.out.since hs BT.out.lt)
    have Fa' := Lib.hid ((Fa.out.since hs).more hs.size)
    have Bx' := Lib.hid (Bx.out.since hs Bx.out.lt)
    have Fb' := Lib.hid ((Fb.out.since hs).more hs.size)
    have Bya' := Lib.hid (Bya.out.since hs Bya.out.lt)
    have Fi' := Lib.hid ((Fi.out.since hs).more hs.size)
    have PF' := Lib.hid ((PF.out.since hs).more hs.size)
    have Fo' := Lib.hid ((Fo.out.since hs).more hs.size)
    have Br' := Lib.hid (Br.out.since hs Br.out.lt)
    have Fc' := Lib.hid ((Fc.out.since hs).more hs.size)
    clear hs S23 Bf Bg Bm Bk ZF OF BT Fa Bx Fb Bya Fi PF Fo Br Fc Q1 hg ha hm f0_ f1_ f2_ f3_ f4_
    have Bf := Bf'; clear Bf'
    have Bg := Bg'; clear Bg'
    have Bm := Bm'; clear Bm'
    have Bk := Bk'; clear Bk'
    have ZF := ZF'; clear ZF'
    have OF := OF'; clear OF'
    have BT := BT'; clear BT'
    have Fa := Fa'; clear Fa'
    have Bx := Bx'; clear Bx'
    have Fb := Fb'; clear Fb'
    have Bya := Bya'; clear Bya'
    have Fi := Fi'; clear Fi'
    have PF := PF'; clear PF'
    have Fo := Fo'; clear Fo'
    have Br := Br'; clear Br'
    have Fc := Fc'; clear Fc'
    go_wp2_with fail
    generalize hW : World.alloc w24 _ = w25
    obtain ⟨bs, hbs⟩ : ∃ q, Hid (q = w24.heap.size) := ⟨_, Lib.hid rfl⟩
    have Bs : Hid (MemB 28 w25 bs ⟨s0, s1, s2, s3⟩) := Lib.hid (by rw [← hW, hbs.out]; exact MemB.new _ _ _ _ _ _)
    have hs : w24.Since w24.heap.size w25 := by rw [← hW]; exact (World.Since.refl _ _).alloc (Nat.le_refl _) _
    have S25 := Lib.hid (since_step S24.out hs)
    have Bf' := Lib.hid (Bf.out.since hs Bf.out.lt)
    have Bg' := Lib.hid (Bg.out.since hs Bg.out.lt)
    have Bm' := Lib.hid (Bm.out.since hs Bm.out.lt)
    have Bk' := Lib.hid (Bk.out.since hs Bk.out.lt)
    have ZF' := Lib.hid ((ZF.out.since hs).more hs.size)
    have OF' := Lib.hid ((OF.out.since hs).more hs.size)
    have BT' := Lib.hid (BT.out.since hs BT.out.lt)
    have Fa' := Lib.hid ((Fa.out.since hs).more hs.size)
    have Bx' := Lib.hid (Bx.out.since hs Bx.out.lt)
    have Fb' := Lib.hid ((Fb.out.since hs).more hs.size)
    have Bya' := Lib.hid (Bya.out.since hs Bya.out.lt)
    have Fi' := Lib.hid ((Fi.out.since hs).more hs.size)
    have PF' := Lib.hid ((PF.out.since hs).more hs.size)
    have Fo' := Lib.hid ((Fo.out.since hs).more hs.size)
    have Br' := Lib.hid (Br.out.since hs Br.out.lt)
    have Fc' := Lib.hid ((Fc.out.since hs).more hs.size)
    have Fd' := Lib.hid ((Fd.out.since hs).more hs.size)
    clear hs S24 Bf Bg Bm Bk ZF OF BT Fa Bx Fb Bya Fi PF Fo Br Fc Fd hW
    have Bf := Bf'; clear Bf'
    have Bg := Bg'; clear Bg'
    have Bm := Bm'; clear Bm'
    have Bk := Bk'; clear Bk'
    have ZF := ZF'; clear ZF'
    have OF := OF'; clear OF'
    have BT := BT'; clear BT'
    have Fa := Fa'; clear Fa'
    have Bx := Bx'; clear Bx'
    have Fb := Fb'; clear Fb'
    have Bya := Bya'; clear Bya'
    have Fi := Fi'; clear Fi'
    have PF := PF'; clear PF'
    have Fo := Fo'; clear Fo'
    have Br := Br'; clear Br'
    have Fc := Fc'; clear Fc'
    have Fd := Fd'; clear Fd'
    rw [← hbs.out]; clear hbs
    try clear hK1 hM1 HP HQ Hx Hy VO Va Vb
    obtain ⟨Y4, hY4⟩ : ∃ Y : Nat → O, Hid (Y = filY 0 false F noM (revX no Y3)) := ⟨_, Lib.hid rfl⟩
    obtain ⟨M4, hM4⟩ : ∃ X : Mem, Hid (X = filM 0 false F noM (revX no Y3) no) := ⟨_, Lib.hid rfl⟩
    have C5 := Lib.hid (show ∀ v, w25.Since w25.heap.size v → w25.heap.size ≤ v.heap.size → Calls Try.prog 49 #[.slice Ad no cd] v (fun e w' => ∃ u S, e = .returned u ∧ Lk.nb u ∧ (Lk.lsK w25.heap.size no (revX no Y3)).p u S w' ∧ v.Since v.heap.size w' ∧ ∀ g, S g → v.heap.size ≤ g ∧ g < w'.heap.size) from fun v hv hN => (r8Turned_any Ad no cd od v ((Fd.out.since hv).more hv.size) (by omega)).mono fun e v' h2 => Lk.ls_of hN (h2.like fun j hj => revX_like (fun j hj => Vd.out j hj) j hj))
    have C6 := Lib.hid (show ∀ u S (v : World), w25.heap.size ≤ v.heap.size → (Lk.lsK w25.heap.size no (revX no Y3)).p u S v → (∀ g, S g → g < v.heap.size) → Calls Try.prog 17 #[.agg #[.float .f32 f0, .float .f32 f1, .float .f32 f2, .float .f32 f3, .float .f32 f4], .int .i64 0, .bool false, .agg #[.float .f32 0, .float .f32 0, .float .f32 0, .float .f32 0], u] v (fun e w' => ∃ u2 S2, e = .returned u2 ∧ Lk.nb u2 ∧ (Lk.ploK w25.heap.size no Y4 M4 true).p u2 S2 w' ∧ v.Since v.heap.size w' ∧ ∀ g, S2 g → v.heap.size ≤ g ∧ g < w'.heap.size) from by
      rintro u S v hN ⟨⟨pA, pn, px⟩, pc, rfl, hn, ha, he⟩ hS
      change pn = no at hn
      have l2 : ∀ j, j < no → (fun k => ab .f32 (wd px k)) j = revX no Y3 j := fun j hj => ha j (by rw [hn]; exact hj)
      have hf := (he.ge hS).readF
      have h := implRF_own 0 (by decide) false ⟨f0, f1, f2, f3, f4⟩ ⟨0, 0, 0, 0⟩ F noM pA pn pc px v HF.out noM_fv hf (by omega)
      rw [hn] at h ⊢
      rw [filM_like l2 no (Nat.le_refl _), ← hM4.out] at h
      exact h.mono fun e w2 h2 => Lk.plo_of hN (PLMBo.like h2 fun j hj => by rw [hY4.out]; exact filY_like l2 j hj))
    refine Lk.wp_k (by kernel_rfl) (by kernel_rfl) (by kernel_rfl) ?_
    repeat (first
      | (refine Lk.sRow rfl rfl rfl rfl 31 _ rfl bf 0 rfl [.float .f32 f0, .float .f32 f1, .float .f32 f2, .float .f32 f3, .float .f32 f4] _ Try.underlying31 rfl (by kernel_rfl) (fun v hv => Lo.range_since Bf.out.row hv Bf.out.lt) ?_; (try simp only [Act.eval, Act.put, Lk.Va.val, Lk.Va.kd, List.setIfInBounds_toArray, List.set_cons_succ, List.set_cons_zero, Array.getD_eq_getD_getElem?, List.getElem?_toArray, List.getElem?_cons_succ, List.getElem?_cons_zero, Option.getD_some]))
      | (refine Lk.sCallK rfl rfl (of_decide_eq_true rfl) 49 [.tmp 148] _ rfl (callsEnter 49 Try.f49 _ (by kernel_rfl) (by kernel_rfl) rfl) rfl [.slice Ad no cd] rfl (Lk.lsK w25.heap.size no (revX no Y3)) rfl (fun v hv hN => C5.out v hv hN) ?_; (try simp only [Act.eval, Act.put, Lk.Va.val, Lk.Va.kd, List.setIfInBounds_toArray, List.set_cons_succ, List.set_cons_zero, Array.getD_eq_getD_getElem?, List.getElem?_toArray, List.getElem?_cons_succ, List.getElem?_cons_zero, Option.getD_some]))
      | (refine Lk.sCall1K rfl rfl (of_decide_eq_true rfl) 17 [.tmp 146, .const (.int .i64 0), .const (.bool false), .tmp 147, .tmp 149] _ rfl (callsEnter 17 Try.f17 _ (by kernel_rfl) (by kernel_rfl) rfl) 149 (by simp) (Lk.lsK w25.heap.size no (revX no Y3)) rfl (fun u => [.agg #[.float .f32 f0, .float .f32 f1, .float .f32 f2, .float .f32 f3, .float .f32 f4], .int .i64 0, .bool false, .agg #[.float .f32 0, .float .f32 0, .float .f32 0, .float .f32 0], u]) (fun b => rfl) (Lk.ploK w25.heap.size no Y4 M4 true) rfl (fun u S v hv hN hp hS => C6.out u S v hN hp hS) ?_; (try simp only [Act.eval, Act.put, Lk.Va.val, Lk.Va.kd, List.setIfInBounds_toArray, List.set_cons_succ, List.set_cons_zero, Array.getD_eq_getD_getElem?, List.getElem?_toArray, List.getElem?_cons_succ, List.getElem?_cons_zero, Option.getD_some]))
      | (refine Lk.sExtract rfl rfl (of_decide_eq_true rfl) 145 0 rfl (Lk.ploK w25.heap.size no Y4 M4 true) (Lk.foK w25.heap.size no Y4) rfl rfl rfl (fun u S w ⟨p, c, m, e, h1, h2, h3, h4, h5⟩ => ⟨_, _, e, rfl, trivial, p, c, rfl, h1, h2, h4, h5⟩) ?_; (try simp only [Act.eval, Act.put, Lk.Va.val, Lk.Va.kd, List.setIfInBounds_toArray, List.set_cons_succ, List.set_cons_zero, Array.getD_eq_getD_getElem?, List.getElem?_toArray, List.getElem?_cons_succ, List.getElem?_cons_zero, Option.getD_some]))
      | (refine Lk.sExtract rfl rfl (of_decide_eq_true rfl) 145 1 rfl (Lk.ploK w25.heap.size no Y4 M4 true) (Lk.mK M4) rfl rfl rfl (fun u S w ⟨p, c, m, e, h1, h2, h3, h4, h5⟩ => ⟨_, _, e, rfl, trivial, m, rfl, h3⟩) ?_; (try simp only [Act.eval, Act.put, Lk.Va.val, Lk.Va.kd, List.setIfInBounds_toArray, List.set_cons_succ, List.set_cons_zero, Array.getD_eq_getD_getElem?, List.getElem?_toArray, List.getElem?_cons_succ, List.getElem?_cons_zero, Option.getD_some]))
      | (refine Lk.sExtractV rfl rfl rfl 145 2 rfl (Lk.ploK w25.heap.size no Y4 M4 true) rfl (.bool true) (fun u S w ⟨p, c, m, e, h1, h2, h3, h4, h5⟩ => ⟨_, e, rfl⟩) ?_; (try simp only [Act.eval, Act.put, Lk.Va.val, Lk.Va.kd, List.setIfInBounds_toArray, List.set_cons_succ, List.set_cons_zero, Array.getD_eq_getD_getElem?, List.getElem?_toArray, List.getElem?_cons_succ, List.getElem?_cons_zero, Option.getD_some]))
      | (refine Lk.sAlloc rfl rfl (of_decide_eq_true rfl) 28 rfl 28 [.float .f32 0, .float .f32 0, .float .f32 0, .float .f32 0] (fun v => by go_simp) ?_; (try simp only [Act.eval, Act.put, Lk.Va.val, Lk.Va.kd, List.setIfInBounds_toArray, List.set_cons_succ, List.set_cons_zero, Array.getD_eq_getD_getElem?, List.getElem?_toArray, List.getElem?_cons_succ, List.getElem?_cons_zero, Option.getD_some]))
      | (refine Lk.sStoreK rfl 28 31 152 rfl rfl 28 (· = _) (Lk.isMem M4) rfl (Lk.mK M4) rfl 4 (fun cs h => by rw [h]; rfl) (by kernel_rfl) (fun u S w ⟨m, e, h⟩ => ⟨_, e, rfl, ⟨m.a, m.b, m.c, m.d, rfl, h⟩, by simp [Value.oneCell']⟩) ?_; (try simp only [Act.eval, Act.put, Lk.Va.val, Lk.Va.kd, List.setIfInBounds_toArray, List.set_cons_succ, List.set_cons_zero, Array.getD_eq_getD_getElem?, List.getElem?_toArray, List.getElem?_cons_succ, List.getElem?_cons_zero, Option.getD_some]))
      | (refine Lk.sMove rfl rfl rfl rfl _ (.inl rfl) ?_; simp only [Act.eval, Act.put, Lk.Va.val, Lk.Va.kd, List.setIfInBounds_toArray, List.set_cons_succ, List.set_cons_zero, Array.getD_eq_getD_getElem?, List.getElem?_toArray, List.getElem?_cons_succ, List.getElem?_cons_zero, Option.getD_some])
      | (refine Lk.sMove rfl rfl rfl rfl _ (.inr rfl) ?_; simp only [Act.eval, Act.put, Lk.Va.val, Lk.Va.kd, List.setIfInBounds_toArray, List.set_cons_succ, List.set_cons_zero, Array.getD_eq_getD_getElem?, List.getElem?_toArray, List.getElem?_cons_succ, List.getElem?_cons_zero, Option.getD_some])
      | (refine Lk.sCopy rfl rfl (of_decide_eq_true rfl) _ (.inl rfl) _ rfl rfl ?_; simp only [Act.eval, Act.put, Lk.Va.val, Lk.Va.kd, List.setIfInBounds_toArray, List.set_cons_succ, List.set_cons_zero, Array.getD_eq_getD_getElem?, List.getElem?_toArray, List.getElem?_cons_succ, List.getElem?_cons_zero, Option.getD_some])
      | (refine Lk.sCopy rfl rfl (of_decide_eq_true rfl) _ (.inr rfl) _ rfl rfl ?_; simp only [Act.eval, Act.put, Lk.Va.val, Lk.Va.kd, List.setIfInBounds_toArray, List.set_cons_succ, List.set_cons_zero, Array.getD_eq_getD_getElem?, List.getElem?_toArray, List.getElem?_cons_succ, List.getElem?_cons_zero, Option.getD_some])
      | (refine Lk.sQuiet rfl rfl rfl rfl rfl (fun K hK => ?_); go_big_quiet_op; first | (with_reducible refine ⟨_, fun _ _ => rfl, hK _ ?_⟩; clear hK K) | (refine hK _ ?_; clear hK K)))
    refine Lk.wpK_nil ?_
    refine Lk.After.slot 30 _ rfl ?_; intro u30 _; simp only [Act.eval, Act.put, Lk.Va.val, Lk.Va.kd, List.setIfInBounds_toArray, List.set_cons_succ, List.set_cons_zero, Array.getD_eq_getD_getElem?, List.getElem?_toArray, List.getElem?_cons_succ, List.getElem?_cons_zero, Option.getD_some]
    refine Lk.After.slot 31 _ rfl ?_; intro u31 _; simp only [Act.eval, Act.put, Lk.Va.val, Lk.Va.kd, List.setIfInBounds_toArray, List.set_cons_succ, List.set_cons_zero, Array.getD_eq_getD_getElem?, List.getElem?_toArray, List.getElem?_cons_succ, List.getElem?_cons_zero, Option.getD_some]
    refine Lk.After.slot 149 _ rfl ?_; intro u149 _; simp only [Act.eval, Act.put, Lk.Va.val, Lk.Va.kd, List.setIfInBounds_toArray, List.set_cons_succ, List.set_cons_zero, Array.getD_eq_getD_getElem?, List.getElem?_toArray, List.getElem?_cons_succ, List.getElem?_cons_zero, Option.getD_some]
    refine Lk.After.slot 150 _ rfl ?_; intro u150 _; simp only [Act.eval, Act.put, Lk.Va.val, Lk.Va.kd, List.setIfInBounds_toArray, List.set_cons_succ, List.set_cons_zero, Array.getD_eq_getD_getElem?, List.getElem?_toArray, List.getElem?_cons_succ, List.getElem?_cons_zero, Option.getD_some]
    refine Lk.After.slot 145 _ rfl ?_; intro u145 _; simp only [Act.eval, Act.put, Lk.Va.val, Lk.Va.kd, List.setIfInBounds_toArray, List.set_cons_succ, List.set_cons_zero, Array.getD_eq_getD_getElem?, List.getElem?_toArray, List.getElem?_cons_succ, List.getElem?_cons_zero, Option.getD_some]
    refine Lk.After.slot 151 _ rfl ?_; intro u151 _; simp only [Act.eval, Act.put, Lk.Va.val, Lk.Va.kd, List.setIfInBounds_toArray, List.set_cons_succ, List.set_cons_zero, Array.getD_eq_getD_getElem?, List.getElem?_toArray, List.getElem?_cons_succ, List.getElem?_cons_zero, Option.getD_some]
    refine Lk.After.slot 152 _ rfl ?_; intro u152 _; simp only [Act.eval, Act.put, Lk.Va.val, Lk.Va.kd, List.setIfInBounds_toArray, List.set_cons_succ, List.set_cons_zero, Array.getD_eq_getD_getElem?, List.getElem?_toArray, List.getElem?_cons_succ, List.getElem?_cons_zero, Option.getD_some]
    refine Lk.After.end_ [30, 31, 149, 150, 145, 151, 152] (by repeat (first | exact Lk.nbut.start | refine Lk.nbut.upd (by simp) ?_)) rfl ?_
    intro fpK wK hwK
    intro hK152 hB152 hX152
    intro hK151 hB151 hX151
    intro hK145 hB145 hX145
    intro hK150 hB150 hX150
    intro hK149 hB149 hX149
    intro hK31 hB31 hX31
    intro hK30 hB30 hX30
    obtain ⟨⟨A9, n9, o9⟩, c9, rfl, hn9, hf9, he9, _⟩ := hK30
    change n9 = no at hn9
    subst hn9
    have V9 := Lib.hid (show ∀ j, j < n9 → ab .f32 (wd o9 j) = Y4 j from fun j hj => hf9 j hj)
    have F9 : Hid (Fs wK wK.heap.size A9 n9 o9) := Lib.hid (he9.ge hB30).readF
    clear hK152 hB152 hX152 hK151 hB151 hX151 hK145 hB145 hX145 hK150 hB150 hX150 hK149 hB149 hX149 hK31 hB31 hX31 hB30 hX30 hf9 he9 C5 C6 fpK
    have hs := hwK; clear hwK
    obtain ⟨wz, hV⟩ : ∃ v, v = wK := ⟨_, rfl⟩
    rw [← hV] at hs F9 ⊢; clear hV wK
    have S26 := Lib.hid (since_step S25.out hs)
    have Bf' := Lib.hid (Bf.out.since hs Bf.out.lt)
    have Bg' := Lib.hid (Bg.out.since hs Bg.out.lt)
    have Bm' := Lib.hid (Bm.out.since hs Bm.out.lt)
    have Bk' := Lib.hid (Bk.out.since hs Bk.out.lt)
    have ZF' := Lib.hid ((ZF.out.since hs).more hs.size)
    have OF' := Lib.hid ((OF.out.since hs).more hs.size)
    have BT' := Lib.hid (BT.out.since hs BT.out.lt)
    have Fa' := Lib.hid ((Fa.out.since hs).more hs.size)
    have Bx' := Lib.hid (Bx.out.since hs Bx.out.lt)
    have Fb' := Lib.hid ((Fb.out.since hs).more hs.size)
    have Bya' := Lib.hid (Bya.out.since hs Bya.out.lt)
    have Fi' := Lib.hid ((Fi.out.since hs).more hs.size)
    have PF' := Lib.hid ((PF.out.since hs).more hs.size)
    have Fo' := Lib.hid ((Fo.out.since hs).more hs.size)
    have Br' := Lib.hid (Br.out.since hs Br.out.lt)
    have Fc' := Lib.hid ((Fc.out.since hs).more hs.size)
    have Fd' := Lib.hid ((Fd.out.since hs).more hs.size)
    have Bs' := Lib.hid (Bs.out.since hs Bs.out.lt)
    clear hs S25 Bf Bg Bm Bk ZF OF BT Fa Bx Fb Bya Fi PF Fo Br Fc Fd Bs 
    have Bf := Bf'; clear Bf'
    have Bg := Bg'; clear Bg'
    have Bm := Bm'; clear Bm'
    have Bk := Bk'; clear Bk'
    have ZF := ZF'; clear ZF'
    have OF := OF'; clear OF'
    have BT := BT'; clear BT'
    have Fa := Fa'; clear Fa'
    have Bx := Bx'; clear Bx'
    have Fb := Fb'; clear Fb'
    have Bya := Bya'; clear Bya'
    have Fi := Fi'; clear Fi'
    have PF := PF'; clear PF'
    have Fo := Fo'; clear Fo'
    have Br := Br'; clear Br'
    have Fc := Fc'; clear Fc'
    have Fd := Fd'; clear Fd'
    have Bs := Bs'; clear Bs'
    have E9 : Hid (∀ j, j < n9 → YB j = revX n9 Y4 j) := Lib.hid (fun j hj => by rw [hYB.out, hY4.out, hY3.out]; rfl)
    go_wp2_with (first
      | (go_at_call_of 44 (Value.slice Ai 9 ci); refine (r8Same_any Ai Ao 9 ci co oi oo wz Fi.out Fo.out (by omega) (fun j hj => (Vi.out j hj).trans (Vo.out j hj).symm)).mono ?_; rintro e wa ⟨rfl, hs⟩; have T1 := Lib.hid hs; clear hs)
      | (go_at_call 49; refine ((r8Turned_any A9 n9 c9 o9 wa ((F9.out.since T1.out).more T1.out.size) (by omega)).mono fun e w' h => h.look).mono ?_; rintro e wb ⟨At, ct, ot, rfl, hg, ha, hs⟩; have FT := Lib.hid hg; have VT := Lib.hid ha; have T2 := Lib.hid (T1.out.trans (since_mono hs T1.out.size)); clear hg ha hs)
      | (go_at_call_of 44 (Value.slice Ac n9 cc); refine (r8Same_any Ac At n9 cc ct oc ot wb ((Fc.out.since T2.out).more T2.out.size) FT.out (by omega) (fun j hj => ((Vc.out j hj).trans (E9.out j hj)).trans (((VT.out j hj).trans (revX_like (fun j hj => V9.out j hj) j hj)).symm))).mono ?_; rintro e wc ⟨rfl, hs⟩; have T3 := Lib.hid (T2.out.trans (since_mono hs T2.out.size)); clear hs))
    go_ret
    exact ⟨rfl, S26.out.trans (since_mono T3.out S26.out.size)⟩
end Go.Proofs.Ytebocaicebolaaa

