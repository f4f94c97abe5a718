/- Joined: Oa Ob Od Oe Oc Of Og -/
import Derived.Test.YtpcbniaagckjoaaMa
import Derived.Test.YtpcbniaagckjoaaMc
import Derived.Test.YtpcbniaagckjoaaHb
import Derived.Test.YtpcbniaagckjoaaSf
import Derived.Test.YtpcbniaagckjoaaEa
import Derived.StillTailTactics
import Derived.Test.YtpcbniaagckjoaaCz
/- Lists of structs that hold lists: as entries of a law, and as they come in. -/
set_option linter.unusedVariables false
set_option linter.unusedSimpArgs false
namespace Go.Proofs.Ytpcbniaagckjoaa
namespace Fl
section
variable {α : Type} {cells : α → List Value} {s : Nat} {T : TypeId} {inner : α → En} {B n : Nat} {A : Option Addr} {e : Nat → α} {w w' : World}
/-- what an entry says is kept where its blocks are -/
def Fr_ (p : En) : Prop := ∀ w w' : World, (∀ g, p.S g → w'.heap[g]? = w.heap[g]?) → p.P w → p.P w'
/-- no list of an element lies with another one, or with the elements -/
def Alone (T : TypeId) (cells : α → List Value) (s : Nat) (inner : α → En) (A : Option Addr) (n : Nat) (e : Nat → α) : Prop :=
  (∀ k, k < n → De (se cells s T A n e) (inner (e k))) ∧ ∀ j k, j < n → k < n → j ≠ k → De (inner (e j)) (inner (e k))
def ne (cells : α → List Value) (s : Nat) (T : TypeId) (inner : α → En) (A : Option Addr) (n : Nat) (e : Nat → α) : En :=
  ⟨fun w => (se cells s T A n e).P w ∧ (∀ k, k < n → (inner (e k)).P w) ∧ Alone T cells s inner A n e, fun g => (se cells s T A n e).S g ∨ ∃ k, k < n ∧ (inner (e k)).S g⟩
theorem ne_ge (ho : Ge B w (se cells s T A n e)) (hi : ∀ k, k < n → Ge B w (inner (e k))) (ha : Alone T cells s inner A n e) : Ge B w (ne cells s T inner A n e) :=
  ⟨⟨ho.1, fun k hk => (hi k hk).1, ha⟩, fun w w' h hp => ⟨ho.2.1 w w' (fun g hg => h g (.inl hg)) hp.1, fun k hk => (hi k hk).2.1 w w' (fun g hg => h g (.inr ⟨k, hk, hg⟩)) (hp.2.1 k hk), hp.2.2⟩, fun g hg => by
    rcases hg with hg | ⟨k, hk, hg⟩
    · exact ho.2.2 g hg
    · exact (hi k hk).2.2 g hg⟩
theorem Ge.outer (h : Ge B w (ne cells s T inner A n e)) : Ge B w (se cells s T A n e) := ⟨h.1.1, ce_frame, fun g hg => h.2.2 g (.inl hg)⟩
theorem Ge.each (h : Ge B w (ne cells s T inner A n e)) (hf : ∀ x, Fr_ (inner x)) (k : Nat) (hk : k < n) : Ge B w (inner (e k)) := ⟨h.1.2.1 k hk, hf _, fun g hg => h.2.2 g (.inr ⟨k, hk, hg⟩)⟩
theorem Ge.alone (h : Ge B w (ne cells s T inner A n e)) : Alone T cells s inner A n e := h.1.2.2
end
open Go.ChangeShapes Go.WideShapes Go.RowKit Go.Deep
section
variable {H : Type} {enc : TypeId × Value → H} {P : Program} {w : World} {base : Nat}
/-- a list of floats in a field -/
theorem trod_fs {fuel : Nat} {t e : TypeId} {v : Value} {x : DataW H × List MemPlace} {W : World} (ht : P.underlying t = some (.slice e)) (he : P.underlying e = some (.float .f32)) (hc : P.cellsOf e = 1)
    (hf : DataW.trod enc P W base (fun _ => true) true fuel t [v] = some x) :
    ∃ (A : Option Addr) (n c : Nat) (xs : List Nat), v = .slice A n c ∧ Fs W W.heap.size A n xs ∧ n ≤ 9223372036854775807 := by
  rcases Go.Deep.open_slice ht hf with ⟨hcs, _⟩ | ⟨a, len, cap, m, k, D, Pl, hcs, _, hl, hm, hmm, _, hi⟩
  · injection hcs with hcs _
    exact ⟨none, 0, 0, [], hcs, ⟨rfl, (fun x hx => by cases hx), (fun h => by omega)⟩, by omega⟩
  · injection hcs with hcs _
    rw [if_pos rfl] at hmm
    have hlm : len ≤ m := by omega
    have hcell : ∀ i, i < m → ∃ b, W.cell? (a.add i) = some (.float .f32 b) ∧ b < 4294967296 := by
      intro i him
      obtain ⟨cs', hcs', htr⟩ := hi i him
      rw [hc, Nat.mul_one] at hcs'
      obtain ⟨_, hlen, hat⟩ := World.cells?_some hcs'
      obtain ⟨b, hb, hw⟩ := trod_fl he htr
      have h0 := hat 0 (by omega)
      rw [hb] at h0
      refine ⟨b, ?_, wf_f32 hw⟩
      have e : (a.add i).add 0 = a.add i := by simp [Addr.add]
      rw [e] at h0
      exact h0
    let f : Nat → Nat := fun i => if h : i < m then Classical.choose (hcell i h) else 0
    have hfs : ∀ i (h : i < m), W.cell? (a.add i) = some (.float .f32 (f i)) ∧ f i < 4294967296 := by
      intro i h
      have := Classical.choose_spec (hcell i h)
      simp only [f, dif_pos h]
      exact this
    refine ⟨some a, len, cap, (List.range len).map f, hcs, ⟨by simp, ?_, ?_⟩, by unfold maxLen at hm; omega⟩
    · intro x hx
      obtain ⟨i, hi1, rfl⟩ := List.mem_map.1 hx
      exact (hfs i (by have := List.mem_range.1 hi1; omega)).2
    · intro hn
      obtain ⟨g, off, spot⟩ := a
      have h0 := (hfs 0 (by omega)).1
      have hspot : spot = none := by simpa [Addr.add] using World.cell?_spot h0
      subst hspot
      refine ⟨g, off, rfl, ?_, fun k hk => ?_⟩
      · have h1 : W.cell? ⟨g, off, none⟩ = some (.float .f32 (f 0)) := by simpa [Addr.add] using h0
        rcases Nat.lt_or_ge g W.heap.size with h2 | h2
        · exact h2
        · simp [World.cell?, Array.getElem?_eq_none h2] at h1
      · have h1 := (hfs k (by omega)).1
        rw [Go.WideShapes.add_plain] at h1
        rw [h1]
        unfold fv wd
        simp [hk]
/-- a list of structs, and what reading an element tells beside its cells -/
theorem open_ns {α : Type} {cells : α → List Value} {s : Nat} {ok : World → α → Prop} (z : α) {W : World} {b0 : Nat} {r : Reach} {t e : TypeId} {v : Value} {d : DataW H} {ps : List MemPlace} (ht : P.underlying t = some (.slice e)) (hc : P.cellsOf e = s) (hs : 0 < s)
    (hrow : ∀ (fuel : Nat) (cs : List Value) (x : DataW H × List MemPlace), DataW.trod enc P W base (fun _ => true) true fuel e cs = some x → ∃ y : α, ok W y ∧ cells y = cs)
    (hval : Value.okWide P W r b0 t v) (h : DataW.Trod enc P W base (fun _ => true) true t v d ps) :
    ∃ (A : Option Addr) (n c : Nat) (f : Nat → α), v = .slice A n c ∧ Rs cells s W W.heap.size A n f ∧ (∀ k, k < n → ok W (f k)) ∧ n ≤ 9223372036854775807 :=
  open_ss (ok := ok W) z ht hc hs hrow hval h
end
end Fl
open Fl Go.RowKit
/-- a mark of a list changes nothing else -/
theorem mark_only (A : Option Addr) (n : Nat) (xs : List Nat) (c k0 : Nat) (K : Int) (v : World) (B : Nat) (h : Ge B v (fe A n xs)) (hB : B ≤ v.heap.size) (hn : n ≤ 1048576) (hk0 : k0 ≤ 1073741824) (hK : K = (k0 : Nat)) :
    Calls Try.prog 29 #[.slice A n c, .int .i64 K] v fun e v' => e = .returned (.int .i64 ((k0 + n : Nat) : Int)) ∧ Ge B v' (fe A n (mk k0 n)) ∧ (∀ b, b < v.heap.size → ¬ (fe A n xs).S b → v'.heap[b]? = v.heap[b]?) ∧ v.Since B v' := by
  have he0 : Ge 0 v ⟨fun w' => ∀ b, b < v.heap.size → ¬ (fe A n xs).S b → w'.heap[b]? = v.heap[b]?, fun b => b < v.heap.size ∧ ¬ (fe A n xs).S b⟩ := ⟨fun b _ _ => rfl, fun w w' h hp b hb hs => (h b ⟨hb, hs⟩).trans (hp b hb hs), fun g hg => ⟨Nat.zero_le _, hg.1⟩⟩
  have H : He 0 v [fe A n xs, ⟨fun w' => ∀ b, b < v.heap.size → ¬ (fe A n xs).S b → w'.heap[b]? = v.heap[b]?, fun b => b < v.heap.size ∧ ¬ (fe A n xs).S b⟩] := ⟨⟨h.less (Nat.zero_le _), fun q hq b h1 h2 => by
    obtain rfl := List.mem_singleton.1 hq
    exact h2.2 h1⟩, ⟨he0, fun q hq => by cases hq⟩, trivial⟩
  refine (markFE_any A n xs c k0 K v 0 _ H hn hk0 hK).mono fun e v' ⟨h1, h2, h3⟩ => ?_
  have h4 := h2.2.1.1.1
  refine ⟨h1, ⟨h2.1.1.1, h2.1.1.2.1, fun g hg => ⟨(h.2.2 g hg).1, (h2.1.1.2.2 g hg).2⟩⟩, h4, h3.os, h3.tape, h3.output, h3.size, fun k hk => ?_⟩
  exact h4 k (by omega) fun h6 => by have := (h.2.2 k h6).1; omega
end Go.Proofs.Ytpcbniaagckjoaa

/- Lists of Track as a law holds them. -/
set_option linter.unusedVariables false
set_option linter.unusedSimpArgs false
namespace Go.Proofs.Ytpcbniaagckjoaa
open Fl Go.RowKit
structure TrackR where
  sA : Option Addr
  sn : Nat
  sc : Nat
  sx : List Nat
  t : Int
  p : Nat
  m : Bool
  o : Bool
def TrackR.cells (x : TrackR) : List Value := [.slice x.sA x.sn x.sc, .int .i64 x.t, .float .f32 x.p, .bool x.m, .bool x.o]
def TrackR.val (x : TrackR) : Value := .agg #[.slice x.sA x.sn x.sc, .int .i64 x.t, .float .f32 x.p, .bool x.m, .bool x.o]
def TrackR.zero : TrackR := ⟨none, 0, 0, [], 0, 0, false, false⟩
def TrackR.ok (x : TrackR) : Prop := x.p < 4294967296
/-- the same but for where its list lies -/
def TrackR.like (x y : TrackR) : Prop := x.sn = y.sn ∧ x.sx = y.sx ∧ x.t = y.t ∧ x.p = y.p ∧ x.m = y.m ∧ x.o = y.o
theorem TrackR.like_refl (x : TrackR) : x.like x := ⟨rfl, rfl, rfl, rfl, rfl, rfl⟩
/-- its list, as an entry -/
def TrackR.inn (x : TrackR) : En := fe x.sA x.sn x.sx
theorem TrackR.inn_fr (x : TrackR) : Fr_ x.inn := ce_frame
/-- such a list that can be read -/
def TrackR.Ts (w : World) (B : Nat) (A : Option Addr) (n : Nat) (e : Nat → TrackR) : Prop := Rs TrackR.cells 5 w B A n e ∧ ∀ k, k < n → Fs w B (e k).sA (e k).sn (e k).sx
theorem TrackR.Ts.now {w w1 : World} {A : Option Addr} {n : Nat} {e : Nat → TrackR} (h : TrackR.Ts w w.heap.size A n e) (k : w.Since w.heap.size w1) : TrackR.Ts w1 w1.heap.size A n e := ⟨h.1.now k, fun i hi => (h.2 i hi).now k⟩
theorem TrackR.Ts.since {w w1 : World} {B : Nat} {A : Option Addr} {n : Nat} {e : Nat → TrackR} (h : TrackR.Ts w B A n e) (k : w.Since B w1) : TrackR.Ts w1 B A n e := ⟨h.1.since k, fun i hi => (h.2 i hi).since k⟩
theorem TrackR.Ts.more {w : World} {B B' : Nat} {A : Option Addr} {n : Nat} {e : Nat → TrackR} (h : TrackR.Ts w B A n e) (k : B ≤ B') : TrackR.Ts w B' A n e := ⟨h.1.more k, fun i hi => (h.2 i hi).more k⟩
abbrev TrackR.ent (A : Option Addr) (n : Nat) (e : Nat → TrackR) : En := ne TrackR.cells 5 106 TrackR.inn A n e
theorem TrackR.read {w : World} {lo n : Nat} {A : Option Addr} {e : Nat → TrackR} (h : Ge lo w (TrackR.ent A n e)) : TrackR.Ts w w.heap.size A n e := ⟨h.outer.readS (by decide), fun k hk => (h.each TrackR.inn_fr k hk).readF⟩
theorem gfl {w : World} {T : TypeId} {l : List Value} {g : Nat} (h : w.heap[g]? = some (.cells l.toArray T (0, 0))) : GF w g T l.length (fun j => l.getD j undef) := ⟨_, h, fun j hj => by rw [List.getElem?_toArray]; simp [List.getD_eq_getElem?_getD, List.getElem?_eq_getElem hj]⟩
set_option maxRecDepth 100000 in
set_option maxHeartbeats 2000000 in
theorem toTrack_row (x : TrackR) (W w : World) (hF : Fs W W.heap.size x.sA x.sn x.sx) (s : W.Since W.heap.size w) (hn : x.sn ≤ 1048576) : Calls Try.prog 72 #[x.val] w fun e w' => ∃ y : TrackR, e = .returned y.val ∧ y.like x ∧ (∃ b, y.sA = some ⟨b, 0, none⟩) ∧ Ge w.heap.size w' y.inn ∧ w.Since w.heap.size w' := by
  obtain ⟨x_sA, x_sn, x_sc, x_sx, x_t, x_p, x_m, x_o⟩ := x
  simp only at hF hn
  have HF := Lib.hid hF; have HW := Lib.hid s
  clear hF s
  unfold TrackR.val
  go_enter Try.func72, Try.ntmps72
  go_wp2_with fail
  generalize hW : World.alloc _ _ = V
  have hz : V.heap.size = w.heap.size + 3 := by rw [← hW]; simp
  have HS : Hid (w.Since w.heap.size V) := Lib.hid (by rw [← hW]; exact (((World.Since.refl _ _).alloc (Nat.le_refl _) _).alloc (by simp) _).alloc (by simp; omega) _)
  have G1 := Lib.hid (gfl (w := V) (T := 105) (l := [.slice x_sA x_sn x_sc, .int .i64 x_t, .float .f32 x_p, .bool x_m, .bool x_o]) (g := w.heap.size) (by rw [← hW]; exact ((((World.Since.refl (w.heap.size + 1) _).alloc (by simp) _).alloc (by simp) _).block w.heap.size (by omega)).trans (Go.Deep.blk_alloc_new w _)))
  have G2 := Lib.hid (gfl (w := V) (T := 106) (l := [.slice none 0 0, .int .i64 0, .float .f32 0, .bool false, .bool false]) (g := w.heap.size + 1) (by rw [← hW]; have := Go.Deep.blk_alloc_new (w.alloc (.cells #[.slice x_sA x_sn x_sc, .int .i64 x_t, .float .f32 x_p, .bool x_m, .bool x_o] 105)) (.cells #[.slice none 0 0, .int .i64 0, .float .f32 0, .bool false, .bool false] 106); exact (((World.Since.refl (w.heap.size + 2) _).alloc (by simp) _).block (w.heap.size + 1) (by omega)).trans (by simpa using this)))
  have G3 := Lib.hid (gfl (w := V) (T := 106) (l := [.slice none 0 0, .int .i64 0, .float .f32 0, .bool false, .bool false]) (g := w.heap.size + 1 + 1) (by rw [← hW]; have := Go.Deep.blk_alloc_new ((w.alloc (.cells #[.slice x_sA x_sn x_sc, .int .i64 x_t, .float .f32 x_p, .bool x_m, .bool x_o] 105)).alloc (.cells #[.slice none 0 0, .int .i64 0, .float .f32 0, .bool false, .bool false] 106)) (.cells #[.slice none 0 0, .int .i64 0, .float .f32 0, .bool false, .bool false] 106); simpa using this))
  clear hW
  have a0 := G1.out.cell (j := 0) (by simp)
  have a1 := G1.out.cell (j := 1) (by simp)
  have a2 := G1.out.cell (j := 2) (by simp)
  have a3 := G1.out.cell (j := 3) (by simp)
  have a4 := G1.out.cell (j := 4) (by simp)
  simp only [List.getD_cons_zero, List.getD_cons_succ] at a0 a1 a2 a3 a4
  go_wp2_with fail
  go_at_call 50
  refine (toFE_any x_sA x_sn x_sc x_sx W V HF.out (HW.out.trans (since_mono HS.out HW.out.size)) hn).mono ?_
  rw [hz]
  rintro e w2 ⟨rfl, hg, hs⟩
  clear a0 a1 a2 a3 a4
  have HG := Lib.hid hg
  have HS2 : Hid (w.Since w.heap.size w2) := Lib.hid (HS.out.trans (since_mono hs (by omega)))
  have K1 := Lib.hid (G1.out.of (hs.block _ (by omega)))
  have K2 := Lib.hid (G2.out.of (hs.block _ (by omega)))
  have K3 := Lib.hid (G3.out.of (hs.block _ (by omega)))
  have hz2 : w.heap.size + 3 ≤ w2.heap.size := by have := hs.size; omega
  clear hg hs G1 G2 G3
  have a0 := K1.out.cell (j := 0) (by simp)
  have b0 := K2.out.cell (j := 0) (by simp)
  have c0 := K3.out.cell (j := 0) (by simp)
  have d0 := K2.out.free 0
  have e0 := K3.out.free 0
  have a1 := K1.out.cell (j := 1) (by simp)
  have b1 := K2.out.cell (j := 1) (by simp)
  have c1 := K3.out.cell (j := 1) (by simp)
  have d1 := K2.out.free 1
  have e1 := K3.out.free 1
  have a2 := K1.out.cell (j := 2) (by simp)
  have b2 := K2.out.cell (j := 2) (by simp)
  have c2 := K3.out.cell (j := 2) (by simp)
  have d2 := K2.out.free 2
  have e2 := K3.out.free 2
  have a3 := K1.out.cell (j := 3) (by simp)
  have b3 := K2.out.cell (j := 3) (by simp)
  have c3 := K3.out.cell (j := 3) (by simp)
  have d3 := K2.out.free 3
  have e3 := K3.out.free 3
  have a4 := K1.out.cell (j := 4) (by simp)
  have b4 := K2.out.cell (j := 4) (by simp)
  have c4 := K3.out.cell (j := 4) (by simp)
  have d4 := K2.out.free 4
  have e4 := K3.out.free 4
  simp only [List.getD_cons_zero, List.getD_cons_succ] at a0 b0 c0 a1 b1 c1 a2 b2 c2 a3 b3 c3 a4 b4 c4
  go_wp2
  refine bodyPost_ret (v := .agg #[.slice (some ⟨w.heap.size + 3, 0, none⟩) x_sn x_sn, .int .i64 x_t, .float .f32 x_p, .bool x_m, .bool x_o]) (by simp [results, Try.results72, go_sem, b0, d0, b1, d1, b2, d2, b3, d3, b4, d4]) rfl ⟨⟨some ⟨w.heap.size + 3, 0, none⟩, x_sn, x_sn, x_sx, x_t, x_p, x_m, x_o⟩, rfl, ⟨rfl, rfl, rfl, rfl, rfl, rfl⟩, ⟨_, rfl⟩, ?_, ?_⟩
  · refine (HG.out.less (by omega)).keep (fun g hg => ?_) (by simp only [Go.Deep.nblk_setCell]; exact Nat.le_refl _)
    have hg3 := (HG.out.2.2 g hg).1
    have hne1 : g ≠ w.heap.size + 1 := by omega
    have hne2 : g ≠ w.heap.size + 1 + 1 := by omega
    rw [Go.Deep.blk_setCell_other _ _ _ _ hne1]; rw [Go.Deep.blk_setCell_other _ _ _ _ hne1]; rw [Go.Deep.blk_setCell_other _ _ _ _ hne1]; rw [Go.Deep.blk_setCell_other _ _ _ _ hne1]; rw [Go.Deep.blk_setCell_other _ _ _ _ hne1]; rw [Go.Deep.blk_setCell_other _ _ _ _ hne2]; rw [Go.Deep.blk_setCell_other _ _ _ _ hne2]; rw [Go.Deep.blk_setCell_other _ _ _ _ hne2]; rw [Go.Deep.blk_setCell_other _ _ _ _ hne2]; rw [Go.Deep.blk_setCell_other _ _ _ _ hne2]
  · have hs0 := HS2.out
    (repeat (first | (with_reducible refine Fl.sinDrew ?_) | (with_reducible refine World.Since.drew ?_) | (with_reducible refine Fl.sinSet ?_ ?_; rotate_left) | (with_reducible refine Fl.sinAlloc ?_ ?_; rotate_left) | with_reducible exact World.Since.refl _ _ | with_reducible assumption | (with_reducible refine Fl.sinStep (by with_reducible assumption) ?_))); all_goals (first | omega | (simp; done) | (simp; omega) | (simp [go_sem]; done) | (simp [go_sem]; omega))
theorem Try.infoTrack : (Try.prog.info? 106).map (fun i => (i.zero, i.size, decide (i.bytes ≤ 1024))) = some (some (.agg #[.slice none 0 0, .int .i64 0, .float .f32 0, .bool false, .bool false]), 5, true) := by kernel_rfl
set_option maxHeartbeats 8000000 in
set_option maxRecDepth 100000 in
theorem toTrackS_any (A : Option Addr) (n c : Nat) (x : Nat → TrackR) (W v : World) (h : TrackR.Ts W W.heap.size A n x) (s : W.Since W.heap.size v) (hn : n ≤ 1048576) (hns : ∀ k, k < n → (x k).sn ≤ 1048576) :
    Calls Try.prog 17 #[.slice A n c] v fun r v' => r = .returned (.slice (some ⟨v.heap.size, 0, none⟩) n n) ∧ ∃ e : Nat → TrackR, (∀ k, k < n → (e k).like (x k)) ∧ Ge v.heap.size v' (TrackR.ent (some ⟨v.heap.size, 0, none⟩) n e) ∧ v.Since v.heap.size v' := by
  have H := Lib.hid (h.now s)
  have HNS := Lib.hid hns
  clear h s hns
  obtain ⟨i0, hi, hzz⟩ := Option.map_eq_some_iff.1 Try.infoTrack
  simp only [Prod.mk.injEq] at hzz
  obtain ⟨hz0, hz1, hz2⟩ := hzz
  have hby : i0.bytes ≤ 1024 := of_decide_eq_true hz2
  have hbn : (i0.bytes : Int) * (n : Int) ≤ 281474976710656 := by
    have : i0.bytes * n ≤ 1024 * 1048576 := Nat.mul_le_mul hby hn
    rw [← Int.natCast_mul]
    omega
  have hmk := fun (w : World) => run_make (P := Try.prog) w 25 106 i0 (.agg #[.slice none 0 0, .int .i64 0, .float .f32 0, .bool false, .bool false]) Try.underlying25 hi hz0 .i64 .i64 (n : Int) (n : Int) (by omega) (Int.le_refl _) hbn (by omega)
  simp only [Int.toNat_natCast, hz1] at hmk
  have hzc : (Value.agg #[.slice none 0 0, .int .i64 0, .float .f32 0, .bool false, .bool false]).cells = #[.slice none 0 0, .int .i64 0, .float .f32 0, .bool false, .bool false] := by rfl
  rw [hzc] at hmk
  have hzero : (TrackR.cells TrackR.zero).toArray = #[.slice none 0 0, .int .i64 0, .float .f32 0, .bool false, .bool false] := rfl
  have hmd := Lib.hid (GF.made (cells := TrackR.cells) (s := 5) v 106 #[.slice none 0 0, .int .i64 0, .float .f32 0, .bool false, .bool false] TrackR.zero n hzero rfl (by decide))
  clear hi hz0 hz1 hz2 hby hbn hzc hzero
  go_enter Try.func17, Try.ntmps17
  go_wp2
  go_loopw [4] (fun i wr => ∃ (k : Nat) (e : Nat → TrackR), k ≤ n ∧ i = .int .i64 (k : Nat) ∧ (∀ j, j < k → (e j).like (x j)) ∧ GF wr v.heap.size 106 (n * 5) (ceL TrackR.cells 5 fun i => if i < k then e i else TrackR.zero) ∧ (∀ j, j < k → Ge (v.heap.size + 1) wr (e j).inn) ∧ (∀ i j, i < k → j < k → i ≠ j → De (e i).inn (e j).inn) ∧ v.Since v.heap.size wr) (fun i _ => n - (intOf i).toNat)
  case atStart => exact ⟨0, fun _ => TrackR.zero, Nat.zero_le _, rfl, (fun j hj => by omega), hmd.out, (fun j hj => by omega), (fun i j hi => by omega), (World.Since.refl _ _).alloc (Nat.le_refl _) _⟩
  case round =>
    obtain ⟨k, e, hk, rfl, hlk, hg, hin, hde, hs⟩ := hrel
    have HL := Lib.hid hlk; have HG := Lib.hid hg; have HIN := Lib.hid hin; have HDE := Lib.hid hde; have HS := Lib.hid hs
    have hzw : v.heap.size + 1 ≤ wr.heap.size := hg.lt
    clear hlk hg hin hde hs hmd
    by_cases hlt : k < n
    · obtain ⟨g, off, rfl, hgl, hc⟩ := H.out.1.at_ hlt
      have HTO := Lib.hid (toTrack_row (x k) v wr (H.out.2 k hlt) HS.out (HNS.out k hlt))
      have hc0 := (HS.out.cell (a := ⟨g, off + k * 5 + 0, none⟩) hgl).trans (hc 0 (by decide))
      have hc1 := (HS.out.cell (a := ⟨g, off + k * 5 + 1, none⟩) hgl).trans (hc 1 (by decide))
      have hc2 := (HS.out.cell (a := ⟨g, off + k * 5 + 2, none⟩) hgl).trans (hc 2 (by decide))
      have hc3 := (HS.out.cell (a := ⟨g, off + k * 5 + 3, none⟩) hgl).trans (hc 3 (by decide))
      have hc4 := (HS.out.cell (a := ⟨g, off + k * 5 + 4, none⟩) hgl).trans (hc 4 (by decide))
      have hkk : k * 5 + 5 ≤ n * 5 := by omega
      obtain ⟨y, hy⟩ : ∃ y, y = x k := ⟨_, rfl⟩
      have HY := Lib.hid hy
      rw [← hy] at hc0 hc1 hc2 hc3 hc4 HTO
      clear hy hc
      obtain ⟨y_sA, y_sn, y_sc, y_sx, y_t, y_p, y_m, y_o⟩ := y
      simp only [TrackR.cells, TrackR.val, List.getD_cons_zero, List.getD_cons_succ, Nat.add_zero] at hc0 hc1 hc2 hc3 hc4 HTO
      go_wp2_with fail
      refine HTO.out.mono ?_
      rintro r w2 ⟨z, rfl, hlz, hbz, hgz, hs2⟩
      have HLZ : Hid (z.like (x k)) := Lib.hid (HY.out ▸ hlz)
      have HGZ := Lib.hid hgz
      have HG2 := Lib.hid (HG.out.of (hs2.block _ HG.out.lt))
      have HS2 := Lib.hid (since_step HS.out hs2)
      have HT2 := Lib.hid hs2
      have HE := Lib.hid (show ∀ j, j < n * 5 → ceL TrackR.cells 5 (fun i => if i < k + 1 then (if i = k then z else e i) else TrackR.zero) j = if k * 5 ≤ j ∧ j < k * 5 + 5 then (z.cells).getD (j - k * 5) undef else ceL TrackR.cells 5 (fun i => if i < k then e i else TrackR.zero) j from fun j hj => by
        rw [← ceL_upd _ k z (by decide) j]
        congr 1
        funext i
        unfold upd
        by_cases h1 : i = k
        · subst h1; rw [if_pos (by omega), if_pos rfl, if_pos rfl]
        · rw [if_neg h1, if_neg h1]
          by_cases h2 : i < k
          · rw [if_pos (by omega)]; simp only [if_pos h2]
          · rw [if_neg (by omega)]; simp only [if_neg h2])
      clear hs2 hlz hbz hgz hc0 hc1 hc2 hc3 hc4 HG
      obtain ⟨zz, hzz⟩ : ∃ zz, zz = z := ⟨_, rfl⟩
      have HZZ := Lib.hid hzz
      clear hzz
      have HEQ := HZZ.out
      obtain ⟨z_sA, z_sn, z_sc, z_sx, z_t, z_p, z_m, z_o⟩ := z
      have HZ3 := Lib.hid HEQ
      clear HEQ
      simp only [TrackR.cells, TrackR.val] at HE ⊢
      have hd0 := HG2.out.cell (j := k * 5 + 0) (by omega)
      have hf0 := HG2.out.free (k * 5 + 0)
      have hd1 := HG2.out.cell (j := k * 5 + 1) (by omega)
      have hf1 := HG2.out.free (k * 5 + 1)
      have hd2 := HG2.out.cell (j := k * 5 + 2) (by omega)
      have hf2 := HG2.out.free (k * 5 + 2)
      have hd3 := HG2.out.cell (j := k * 5 + 3) (by omega)
      have hf3 := HG2.out.free (k * 5 + 3)
      have hd4 := HG2.out.cell (j := k * 5 + 4) (by omega)
      have hf4 := HG2.out.free (k * 5 + 4)
      simp only [Nat.add_zero] at hd0 hf0 hd1 hf1 hd2 hf2 hd3 hf3 hd4 hf4
      generalize ceL TrackR.cells 5 (fun i => if i < k then e i else TrackR.zero) (k * 5) = u0q at hd0
      generalize ceL TrackR.cells 5 (fun i => if i < k then e i else TrackR.zero) (k * 5 + 1) = u1q at hd1
      generalize ceL TrackR.cells 5 (fun i => if i < k then e i else TrackR.zero) (k * 5 + 2) = u2q at hd2
      generalize ceL TrackR.cells 5 (fun i => if i < k then e i else TrackR.zero) (k * 5 + 3) = u3q at hd3
      generalize ceL TrackR.cells 5 (fun i => if i < k then e i else TrackR.zero) (k * 5 + 4) = u4q at hd4
      go_wp2
      go_roundw
      case rel =>
        refine ⟨k + 1, fun i => if i = k then zz else e i, by omega, by go_num, fun j hj => ?_, ?_, fun j hj => ?_, fun i j hi hj hij => ?_, ((((HS2.out.setCell (Nat.le_refl _) _).setCell (Nat.le_refl _) _).setCell (Nat.le_refl _) _).setCell (Nat.le_refl _) _).setCell (Nat.le_refl _) _⟩
        · show (if j = k then zz else e j).like (x j)
          by_cases h : j = k
          · subst h; rw [if_pos rfl, HZ3.out]; exact HLZ.out
          · rw [if_neg h]; exact HL.out j (by omega)
        · rw [HZ3.out]
          refine (((((HG2.out.set (k * 5) _).set (k * 5 + 1) _).set (k * 5 + 2) _).set (k * 5 + 3) _).set (k * 5 + 4) _).congr (fun j hj => ?_)
          rw [HE.out j hj]
          by_cases h : k * 5 ≤ j ∧ j < k * 5 + 5
          · rw [if_pos h]
            obtain rfl | rfl | rfl | rfl | rfl : j = k * 5 + 0 ∨ j = k * 5 + 1 ∨ j = k * 5 + 2 ∨ j = k * 5 + 3 ∨ j = k * 5 + 4 := by omega
            all_goals simp
          · rw [if_neg h, if_neg (by omega), if_neg (by omega), if_neg (by omega), if_neg (by omega), if_neg (by omega)]
        · show Ge (v.heap.size + 1) _ (if j = k then zz else e j).inn
          by_cases h : j = k
          · subst h; rw [if_pos rfl, HZ3.out]
            refine (HGZ.out.less hzw).keep (fun g hg => ?_) (by simp only [Go.Deep.nblk_setCell]; exact Nat.le_refl _)
            have hne : g ≠ v.heap.size := by have := (HGZ.out.2.2 g hg).1; omega
            rw [Go.Deep.blk_setCell_other _ _ _ _ hne]; rw [Go.Deep.blk_setCell_other _ _ _ _ hne]; rw [Go.Deep.blk_setCell_other _ _ _ _ hne]; rw [Go.Deep.blk_setCell_other _ _ _ _ hne]; rw [Go.Deep.blk_setCell_other _ _ _ _ hne]
          · rw [if_neg h]
            refine ((HIN.out j (by omega)).since HT2.out).keep (fun g hg => ?_) (by simp only [Go.Deep.nblk_setCell]; exact Nat.le_refl _)
            have hne : g ≠ v.heap.size := by have := ((HIN.out j (by omega)).2.2 g hg).1; omega
            rw [Go.Deep.blk_setCell_other _ _ _ _ hne]; rw [Go.Deep.blk_setCell_other _ _ _ _ hne]; rw [Go.Deep.blk_setCell_other _ _ _ _ hne]; rw [Go.Deep.blk_setCell_other _ _ _ _ hne]; rw [Go.Deep.blk_setCell_other _ _ _ _ hne]
        · show De (if i = k then zz else e i).inn (if j = k then zz else e j).inn
          by_cases h1 : i = k
          · rw [if_pos h1]
            have h2 : j ≠ k := fun h => hij (h1.trans h.symm)
            rw [if_neg h2, HZ3.out]
            intro g ha hb
            have h3 := (HGZ.out.2.2 g ha).1
            have h4 := ((HIN.out j (by omega)).2.2 g hb).2
            omega
          · rw [if_neg h1]
            by_cases h2 : j = k
            · rw [if_pos h2, HZ3.out]
              intro g ha hb
              have h3 := (HGZ.out.2.2 g hb).1
              have h4 := ((HIN.out i (by omega)).2.2 g ha).2
              omega
            · rw [if_neg h2]; exact HDE.out i j (by omega) (by omega) hij
      case measure => simp [intOf]; omega
    · obtain rfl : k = n := by omega
      go_wp2
      go_ret
      refine ⟨rfl, e, HL.out, ne_ge (GF.entry (HG.out.congr fun j hj => ?_) (Nat.le_refl _)) (fun j hj => (HIN.out j hj).less (by omega)) ⟨fun j hj g ha hb => ?_, HDE.out⟩, HS.out⟩
      · unfold ceL
        dsimp only
        rw [if_pos (Nat.div_lt_of_lt_mul (by rw [Nat.mul_comm]; exact hj))]
      · obtain ⟨_, o2, e2⟩ := ha
        injection e2 with e2; injection e2 with e2 _ _
        have := ((HIN.out j hj).2.2 g hb).1
        omega
def TrackR.tot (x : Nat → TrackR) : Nat → Nat
  | 0 => 0
  | k + 1 => TrackR.tot x k + (x k).sn
theorem TrackR.tot_le (x : Nat → TrackR) {k n : Nat} (h : k ≤ n) : TrackR.tot x k ≤ TrackR.tot x n := by
  induction n with
  | zero => rw [Nat.le_zero.1 h]; exact Nat.le_refl _
  | succ n ih =>
    by_cases e : k = n + 1
    · rw [e]; exact Nat.le_refl _
    · have := ih (by omega)
      show _ ≤ TrackR.tot x n + (x n).sn
      omega
theorem szTrack_row (x : TrackR) (L : Int) (w : World) (h0 : 0 ≤ L) (h1 : L ≤ 1048576) (hn : x.sn ≤ 9223372036854775807) : Calls Try.prog 70 #[x.val, .int .i64 L] w fun r w' => r = .returned (.int .i64 (if (x.sn : Int) ≤ L then L - x.sn else -1)) ∧ w.Since w.heap.size w' := by
  obtain ⟨y_sA, y_sn, y_sc, y_sx, y_t, y_p, y_m, y_o⟩ := x
  simp only at hn
  unfold TrackR.val
  have HFL : Hid (∀ w : World, Calls Try.prog 82 #[.slice y_sA y_sn y_sc, .int .i64 L] w fun r w' => r = .returned (.int .i64 (if (y_sn : Int) ≤ L then L - y_sn else -1)) ∧ w = w') := Lib.hid (by
    intro w
    by_cases h : (y_sn : Int) ≤ L
    · rw [if_pos h]
      go_enter Try.func82, Try.ntmps82
      go_wp2
      go_ret
      exact ⟨rfl, rfl⟩
    · rw [if_neg h]
      go_enter Try.func82, Try.ntmps82
      go_wp2
      go_ret
      exact ⟨rfl, rfl⟩)
  by_cases h : (y_sn : Int) ≤ L
  · simp only [if_pos h] at HFL ⊢
    go_enter Try.func70, Try.ntmps70
    go_wp2_with (go_at_call 82; refine (HFL.out _).mono ?_; rintro e w1 ⟨rfl, rfl⟩)
    go_ret
    exact ⟨rfl, by (repeat (first | (with_reducible refine Fl.sinDrew ?_) | (with_reducible refine World.Since.drew ?_) | (with_reducible refine Fl.sinSet ?_ ?_; rotate_left) | (with_reducible refine Fl.sinAlloc ?_ ?_; rotate_left) | with_reducible exact World.Since.refl _ _ | with_reducible assumption | (with_reducible refine Fl.sinStep (by with_reducible assumption) ?_))); all_goals (first | omega | (simp; done) | (simp; omega) | (simp [go_sem]; done) | (simp [go_sem]; omega))⟩
  · simp only [if_neg h] at HFL ⊢
    go_enter Try.func70, Try.ntmps70
    go_wp2_with (go_at_call 82; refine (HFL.out _).mono ?_; rintro e w1 ⟨rfl, rfl⟩)
    go_ret
    exact ⟨rfl, by (repeat (first | (with_reducible refine Fl.sinDrew ?_) | (with_reducible refine World.Since.drew ?_) | (with_reducible refine Fl.sinSet ?_ ?_; rotate_left) | (with_reducible refine Fl.sinAlloc ?_ ?_; rotate_left) | with_reducible exact World.Since.refl _ _ | with_reducible assumption | (with_reducible refine Fl.sinStep (by with_reducible assumption) ?_))); all_goals (first | omega | (simp; done) | (simp; omega) | (simp [go_sem]; done) | (simp [go_sem]; omega))⟩
set_option maxHeartbeats 4000000 in
set_option maxRecDepth 100000 in
theorem szTrackS_any (A : Option Addr) (n c : Nat) (x : Nat → TrackR) (L : Int) (w : World) (h : Rs TrackR.cells 5 w w.heap.size A n x) (hx : ∀ k, k < n → (x k).sn ≤ 9223372036854775807) (hL : L ≤ 1048576) (hn : (n : Int) ≤ L) (z : Int) (hz : z = if (n : Int) + TrackR.tot x n ≤ L then L - n - TrackR.tot x n else -1) :
    Calls Try.prog 15 #[.slice A n c, .int .i64 L] w fun r w' => r = .returned (.int .i64 z) ∧ w.Since w.heap.size w' := by
  have H := Lib.hid h; have HX := Lib.hid hx; have HZ := Lib.hid hz
  clear h hx hz
  have hb : 0 ≤ L - n := by omega
  have hb2 : L - n ≤ 1048576 := by omega
  go_enter Try.func15, Try.ntmps15
  go_wp2
  go_loopw [1, 5] (fun lv i wr => ∃ (k : Nat) (l : Int), k ≤ n ∧ i = .int .i64 (k : Nat) ∧ lv = .int .i64 l ∧ Hid (l = L - n - TrackR.tot x k) ∧ 0 ≤ l ∧ l ≤ 1048576 ∧ w.Since w.heap.size wr) (fun _ i _ => n - (intOf i).toNat)
  case atStart => exact ⟨0, L - n, Nat.zero_le _, rfl, rfl, Lib.hid (by simp [TrackR.tot]), hb, hb2, World.Since.refl _ _⟩
  case round =>
    obtain ⟨k, l, hk, rfl, rfl, HL, hl0, hl1, hs⟩ := hrel
    have HS := Lib.hid hs
    clear hs
    by_cases hlt : k < n
    · obtain ⟨g, off, rfl, hgl, hc⟩ := H.out.at_ hlt
      have HSZ := Lib.hid (fun W => szTrack_row (x k) l W hl0 hl1 (HX.out k hlt))
      have hc0 := (HS.out.cell (a := ⟨g, off + k * 5 + 0, none⟩) hgl).trans (hc 0 (by decide))
      have hc1 := (HS.out.cell (a := ⟨g, off + k * 5 + 1, none⟩) hgl).trans (hc 1 (by decide))
      have hc2 := (HS.out.cell (a := ⟨g, off + k * 5 + 2, none⟩) hgl).trans (hc 2 (by decide))
      have hc3 := (HS.out.cell (a := ⟨g, off + k * 5 + 3, none⟩) hgl).trans (hc 3 (by decide))
      have hc4 := (HS.out.cell (a := ⟨g, off + k * 5 + 4, none⟩) hgl).trans (hc 4 (by decide))
      obtain ⟨y, hy⟩ : ∃ y, y = x k := ⟨_, rfl⟩
      have HY := Lib.hid hy
      rw [← hy] at hc0 hc1 hc2 hc3 hc4 HSZ
      have HYN : Hid (y.sn = (x k).sn) := Lib.hid (by rw [hy])
      clear hy hc HY
      obtain ⟨y_sA, y_sn, y_sc, y_sx, y_t, y_p, y_m, y_o⟩ := y
      simp only at HYN
      simp only [TrackR.cells, TrackR.val, List.getD_cons_zero, List.getD_cons_succ, Nat.add_zero] at hc0 hc1 hc2 hc3 hc4 HSZ
      by_cases hle : (y_sn : Int) ≤ l
      · simp only [if_pos hle] at HSZ
        have hnn : ¬ l - (y_sn : Int) < 0 := by omega
        go_wp2_with fail
        refine (HSZ.out _).mono ?_
        rintro e w2 ⟨rfl, hs2⟩
        have HS2 := Lib.hid (since_step HS.out hs2); clear hs2
        have HLE := Lib.hid hle
        go_wp2
        go_roundw
        case rel => exact ⟨k + 1, l - y_sn, by omega, by go_num, rfl, Lib.hid (by have h1 := HL.out; have h2 := HYN.out; show _ = L - n - ((TrackR.tot x k + (x k).sn : Nat) : Int); omega), by have := HLE.out; omega, by omega, HS2.out⟩
        case measure => simp [intOf]; omega
      · simp only [if_neg hle] at HSZ
        have hres : Hid (¬ (n : Int) + TrackR.tot x n ≤ L) := Lib.hid (by
          have h1 := HL.out; have h2 := HYN.out
          have h3 : TrackR.tot x k + (x k).sn ≤ TrackR.tot x n := TrackR.tot_le x (k := k + 1) hlt
          omega)
        go_wp2_with fail
        refine (HSZ.out _).mono ?_
        rintro e w2 ⟨rfl, hs2⟩
        have HS2 := Lib.hid (since_step HS.out hs2); clear hs2
        go_wp2
        go_ret
        have e : z = -1 := by rw [HZ.out, if_neg (by have := hres.out; omega)]
        exact ⟨by rw [e]; rfl, HS2.out⟩
    · obtain rfl : k = n := by omega
      have hres : Hid ((k : Int) + TrackR.tot x k ≤ L) := Lib.hid (by have h1 := HL.out; omega)
      go_wp2
      go_ret
      have e : z = l := by rw [HZ.out, if_pos hres.out, HL.out]
      exact ⟨by rw [e]; rfl, HS.out⟩
theorem szTrackS_big (A : Option Addr) (n c : Nat) (L : Int) (w : World) (hL : L ≤ 1048576) (h0 : 0 ≤ L) (hn : L < n) (hn2 : n ≤ 9223372036854775807) : Calls Try.prog 15 #[.slice A n c, .int .i64 L] w fun r w' => r = .returned (.int .i64 (-1)) ∧ w.Since w.heap.size w' := by
  have h1 : L - n < 0 := by omega
  go_enter Try.func15, Try.ntmps15
  go_wp2
  go_ret
  exact ⟨rfl, World.Since.refl _ _⟩
set_option maxRecDepth 100000 in
set_option maxHeartbeats 4000000 in
theorem eqTrack_row (x y : TrackR) (w : World) (hx : Fs w w.heap.size x.sA x.sn x.sx) (hy : Fs w w.heap.size y.sA y.sn y.sx) (hox : x.ok) (hn : x.sn ≤ 1048576) (h : x.like y) : Calls Try.prog 74 #[x.val, y.val] w fun e w' => e = .returned (.bool true) ∧ w.Since w.heap.size w' := by
  obtain ⟨x_sA, x_sn, x_sc, x_sx, x_t, x_p, x_m, x_o⟩ := x
  obtain ⟨y_sA, y_sn, y_sc, y_sx, y_t, y_p, y_m, y_o⟩ := y
  simp only [TrackR.like, TrackR.ok] at *
  obtain ⟨rfl, rfl, rfl, rfl, rfl, rfl⟩ := h
  unfold TrackR.val
  have k_p := hox; 
  have px_p : Hid (Fv .f32 x_p (ab .f32 x_p)) := Lib.hid ⟨k_p, rfl⟩
  have HX := Lib.hid hx; have HY := Lib.hid hy
  clear hx hy hox
  go_enter Try.func74, Try.ntmps74
  go_wp2_with fail
  generalize hW : World.alloc _ _ = V
  have HS : Hid (w.Since w.heap.size V) := Lib.hid (by rw [← hW]; exact ((World.Since.refl _ _).alloc (Nat.le_refl _) _).alloc (by simp) _)
  have hz : w.heap.size + 1 < V.heap.size := by rw [← hW]; simp
  have G1 := Lib.hid (gfl (w := V) (T := 106) (l := [.slice x_sA x_sn x_sc, .int .i64 x_t, .float .f32 x_p, .bool x_m, .bool x_o]) (g := w.heap.size) (by rw [← hW]; exact (((World.Since.refl (w.heap.size + 1) _).alloc (by simp) _).block w.heap.size (by omega)).trans (Go.Deep.blk_alloc_new w _)))
  have G2 := Lib.hid (gfl (w := V) (T := 106) (l := [.slice y_sA x_sn y_sc, .int .i64 x_t, .float .f32 x_p, .bool x_m, .bool x_o]) (g := w.heap.size + 1) (by rw [← hW]; have := Go.Deep.blk_alloc_new (w.alloc (.cells #[.slice x_sA x_sn x_sc, .int .i64 x_t, .float .f32 x_p, .bool x_m, .bool x_o] 106)) (.cells #[.slice y_sA x_sn y_sc, .int .i64 x_t, .float .f32 x_p, .bool x_m, .bool x_o] 106); simpa using this))
  clear hW
  have a0 := G1.out.cell (j := 0) (by simp)
  have b0 := G2.out.cell (j := 0) (by simp)
  have a1 := G1.out.cell (j := 1) (by simp)
  have b1 := G2.out.cell (j := 1) (by simp)
  have a2 := G1.out.cell (j := 2) (by simp)
  have b2 := G2.out.cell (j := 2) (by simp)
  have a3 := G1.out.cell (j := 3) (by simp)
  have b3 := G2.out.cell (j := 3) (by simp)
  have a4 := G1.out.cell (j := 4) (by simp)
  have b4 := G2.out.cell (j := 4) (by simp)
  simp only [List.getD_cons_zero, List.getD_cons_succ] at a0 b0 a1 b1 a2 b2 a3 b3 a4 b4
  go_wp2_with (first | (with_reducible_and_instances refine Lo.wpList_wi _ rfl _ _ _ rfl _ _ rfl (by kernel_rfl) (by kernel_rfl) (by assumption) ?_; intro rr nn hrr) | (go_at_call 44; refine (sameFloat_any _ _ _ _ (by assumption : Hid _) (by assumption : Hid _)).mono ?_; rintro e w' ⟨rfl, n1, rfl⟩))
  go_at_call 28
  refine (eqL_any ⟨x_sA, x_sn, x_sx⟩ ⟨y_sA, x_sn, x_sx⟩ _ _ _ (fun k => ab .f32 (wd x_sx k)) (HX.out.now HS.out) (HY.out.now HS.out) hn rfl (fun _ _ => rfl) (fun _ _ => rfl)).mono ?_
  rintro e w2 ⟨rfl, hs⟩
  clear a0 b0 a1 b1 a2 b2 a3 b3 a4 b4
  have HS2 : Hid (w.Since w.heap.size w2) := Lib.hid (since_step HS.out hs)
  have K1 := Lib.hid (G1.out.of (hs.block _ (by omega)))
  have K2 := Lib.hid (G2.out.of (hs.block _ (by omega)))
  clear hs G1 G2
  have a0 := K1.out.cell (j := 0) (by simp)
  have b0 := K2.out.cell (j := 0) (by simp)
  have a1 := K1.out.cell (j := 1) (by simp)
  have b1 := K2.out.cell (j := 1) (by simp)
  have a2 := K1.out.cell (j := 2) (by simp)
  have b2 := K2.out.cell (j := 2) (by simp)
  have a3 := K1.out.cell (j := 3) (by simp)
  have b3 := K2.out.cell (j := 3) (by simp)
  have a4 := K1.out.cell (j := 4) (by simp)
  have b4 := K2.out.cell (j := 4) (by simp)
  simp only [List.getD_cons_zero, List.getD_cons_succ] at a0 b0 a1 b1 a2 b2 a3 b3 a4 b4
  go_wp2_with (first | (with_reducible_and_instances refine Lo.wpList_wi _ rfl _ _ _ rfl _ _ rfl (by kernel_rfl) (by kernel_rfl) (by assumption) ?_; intro rr nn hrr) | (go_at_call 44; refine (sameFloat_any _ _ _ _ (by assumption : Hid _) (by assumption : Hid _)).mono ?_; rintro e w' ⟨rfl, n1, rfl⟩))
  go_ret
  exact ⟨rfl, by have hs0 := HS2.out; have hz0 := hs0.size; (repeat (first | (with_reducible refine Fl.sinDrew ?_) | (with_reducible refine World.Since.drew ?_) | (with_reducible refine Fl.sinSet ?_ ?_; rotate_left) | (with_reducible refine Fl.sinAlloc ?_ ?_; rotate_left) | with_reducible exact World.Since.refl _ _ | with_reducible assumption | (with_reducible refine Fl.sinStep (by with_reducible assumption) ?_))); all_goals (first | omega | (simp; done) | (simp; omega) | (simp [go_sem]; done) | (simp [go_sem]; omega))⟩
set_option maxHeartbeats 4000000 in
set_option maxRecDepth 100000 in
theorem eqTrackS_any (A C : Option Addr) (n c d : Nat) (e f : Nat → TrackR) (w : World) (ha : TrackR.Ts w w.heap.size A n e) (hc : TrackR.Ts w w.heap.size C n f) (hn : n ≤ 1048576) (hns : ∀ k, k < n → (e k).sn ≤ 1048576) (he : ∀ k, k < n → (e k).ok ∧ (e k).like (f k)) :
    Calls Try.prog 19 #[.slice A n c, .slice C n d] w fun r w' => r = .returned (.bool true) ∧ w.Since w.heap.size w' := by
  have HA := Lib.hid ha; have HC := Lib.hid hc; have HE := Lib.hid he; have HNS := Lib.hid hns
  clear ha hc he hns
  go_enter Try.func19, Try.ntmps19
  go_wp2
  go_loopw [5] (fun i wr => ∃ k : Nat, k ≤ n ∧ i = .int .i64 (k : Nat) ∧ w.Since w.heap.size wr) (fun i _ => n - (intOf i).toNat)
  case atStart => exact ⟨0, Nat.zero_le _, rfl, World.Since.refl _ _⟩
  case round =>
    obtain ⟨k, hk, rfl, hs⟩ := hrel
    have HS := Lib.hid hs
    clear hs
    by_cases hlt : k < n
    · obtain ⟨g, off, rfl, hgl, hc1⟩ := HA.out.1.range hlt (by rfl)
      obtain ⟨g2, off2, rfl, hgl2, hc2⟩ := HC.out.1.range hlt (by rfl)
      have HEQ : Hid (∀ W, (∃ hs d, W = Lo.mkW wr hs d) → Calls Try.prog 74 #[(e k).val, (f k).val] W fun r w' => r = .returned (.bool true) ∧ W.Since W.heap.size w') := Lib.hid (fun W hW => by
        obtain ⟨hs, d, rfl⟩ := hW
        have hT := since_step HS.out (Lo.mkW_since wr hs d)
        exact eqTrack_row (e k) (f k) _ ((HA.out.2 k hlt).now hT) ((HC.out.2 k hlt).now hT) (HE.out k hlt).1 (HNS.out k hlt) (HE.out k hlt).2)
      have R1 := Lib.hid (Lo.range_since hc1 HS.out (by omega))
      have R2 := Lib.hid (Lo.range_since hc2 HS.out (by omega))
      have hz := HS.out.size
      generalize e k = x at *
      generalize f k = y at *
      obtain ⟨x_sA, x_sn, x_sc, x_sx, x_t, x_p, x_m, x_o⟩ := x
      obtain ⟨y_sA, y_sn, y_sc, y_sx, y_t, y_p, y_m, y_o⟩ := y
      simp only [TrackR.cells, TrackR.val] at R1 R2 HEQ
      clear hc1 hc2
      go_wp2_with fail
      refine Lo.wp_looseG_all [] (by kernel_rfl) (by kernel_rfl) ?_
      repeat (first
        | (refine Lo.wpL_loadRow rfl 106 _ rfl (by decide) g (off + k * 5) rfl [.slice x_sA x_sn x_sc, .int .i64 x_t, .float .f32 x_p, .bool x_m, .bool x_o] _ Try.underlying106 rfl (by kernel_rfl) (fun v ⟨hs, dd, hv⟩ => hv ▸ Lo.range_since R1.out (Lo.mkW_since _ hs dd) (by omega)) ?_; simp only [Act.put, List.setIfInBounds_toArray, List.set_cons_succ, List.set_cons_zero])
        | (refine Lo.wpL_loadRow rfl 106 _ rfl (by decide) g2 (off2 + k * 5) rfl [.slice y_sA y_sn y_sc, .int .i64 y_t, .float .f32 y_p, .bool y_m, .bool y_o] _ Try.underlying106 rfl (by kernel_rfl) (fun v ⟨hs, dd, hv⟩ => hv ▸ Lo.range_since R2.out (Lo.mkW_since _ hs dd) (by omega)) ?_; simp only [Act.put, List.setIfInBounds_toArray, List.set_cons_succ, List.set_cons_zero])
        | (refine Lo.wpG_callQ rfl 74 [.tmp _, .tmp _] [.agg #[.slice x_sA x_sn x_sc, .int .i64 x_t, .float .f32 x_p, .bool x_m, .bool x_o], .agg #[.slice y_sA y_sn y_sc, .int .i64 y_t, .float .f32 y_p, .bool y_m, .bool y_o]] _ rfl (by decide) (callsEnter 74 Try.f74 _ (by kernel_rfl) (by kernel_rfl) rfl) rfl (.bool true) (fun v hv => (HEQ.out v hv).mono fun e v2 ⟨h1, h2⟩ => ⟨h1, Lo.mkW_mkW hv h2⟩) ?_; simp only [Act.put, List.setIfInBounds_toArray, List.set_cons_succ, List.set_cons_zero])
        | (refine Lo.wpL_move rfl _ (.inl rfl) (by decide) ?_; simp only [Act.put, List.setIfInBounds_toArray, List.set_cons_succ, List.set_cons_zero])
        | (refine Lo.wpL_move rfl _ (.inr rfl) (by decide) ?_; simp only [Act.put, List.setIfInBounds_toArray, List.set_cons_succ, List.set_cons_zero])
        | (refine Lo.wpG_fop (fun _ m h => Lo.drewG m h) rfl _ _ _ _ rfl rfl (by decide) _ _ _ _ _ rfl rfl (by assumption) (by assumption) ?_; intro rr hrr; simp only [Act.put, List.setIfInBounds_toArray, List.set_cons_succ, List.set_cons_zero])
        | (refine Lo.wpL_quiet rfl (by decide) (fun K hK => ?_); go_big_quiet_op; first | (refine hK _ ?_; clear hK K) | (refine ⟨_, fun _ _ _ _ => rfl, hK _ ?_⟩; clear hK K)))
      refine Lo.wpL_nil ?_; intro hsG dG
      refine Lo.after_nil ?_; intro nq
      generalize hwG : Lo.mkW _ hsG dG = wG
      replace hwG := Lo.sinceG hwG
      clear hsG dG
      go_wp2
      go_roundw
      case rel => exact ⟨k + 1, by omega, by go_num, since_step HS.out hwG⟩
      case measure => simp [intOf]; omega
    · go_wp2
      go_ret
      exact ⟨rfl, HS.out⟩
theorem Fl.He.other {B : Nat} {v v' : World} {p : En} {r : List En} (h : He B v (p :: r)) (ho : ∀ g, g < v.heap.size → ¬ p.S g → v'.heap[g]? = v.heap[g]?) (hz : v.heap.size ≤ v'.heap.size) : He B v' r := by
  have hd := h.1.2
  have ht := h.2
  clear h
  induction r with
  | nil => trivial
  | cons q r ih =>
    refine ⟨⟨?_, ht.1.2⟩, ih (fun q' hq' => hd q' (.tail _ hq')) ht.2⟩
    exact ht.1.1.keep (fun b hb => ho b (ht.1.1.2.2 b hb).2 fun hp => hd q (.head _) b hp hb) hz
set_option maxHeartbeats 8000000 in
set_option maxRecDepth 100000 in
theorem markTrackS_any (g n : Nat) (e : Nat → TrackR) (c k0 : Nat) (K : Int) (v : World) (B : Nat) (r : List En) (h : He B v (TrackR.ent (some ⟨g, 0, none⟩) n e :: r)) (hB : B ≤ v.heap.size) (hn : n ≤ 1048576) (hns : ∀ k, k < n → (e k).sn ≤ 1048576) (ht : TrackR.tot e n ≤ 1048576) (hk0 : k0 ≤ 536870912) (hK : K = (k0 : Nat)) :
    Calls Try.prog 23 #[.slice (some ⟨g, 0, none⟩) n c, .int .i64 K] v fun r1 v' => r1 = .returned (.int .i64 ((k0 + TrackR.tot e n + n * 4 : Nat) : Int)) ∧ He B v' r ∧ v.Since B v' := by
  subst hK
  have HH := Lib.hid h
  have HNS := Lib.hid hns
  by_cases hpos : 0 < n
  · obtain ⟨g1, off1, cs1, e1, hg, hgl, hb, hc⟩ := h.1.1.outer.ce (Nat.mul_pos hpos (by decide))
    injection e1 with e1; injection e1 with e1 e2 _; subst e1; subst e2
    have HG0 : Hid (GF v g 106 (n * 5) (ceL TrackR.cells 5 e)) := Lib.hid ⟨cs1, hb, fun j hj => by have := hc j hj; rwa [Nat.zero_add] at this⟩
    have HAL := Lib.hid h.1.1.alone
    have HIN0 : Hid (∀ j, j < n → Ge B v (e j).inn) := Lib.hid (fun j hj => h.1.1.each TrackR.inn_fr j hj)
    have HSG : Hid ((se TrackR.cells 5 106 (some ⟨g, 0, none⟩) n e).S g) := Lib.hid ⟨Nat.mul_pos hpos (by decide), 0, rfl⟩
    clear hb hc h hns
    go_enter Try.func23, Try.ntmps23
    go_wp2
    go_loopw [1, 5] (fun kv i wr => ∃ (k : Nat) (f : Nat → Value), k ≤ n ∧ i = .int .i64 (k : Nat) ∧ kv = .int .i64 ((k0 + TrackR.tot e k + k * 4 : Nat) : Int) ∧ GF wr g 106 (n * 5) f ∧ (∀ j, k * 5 ≤ j → j < n * 5 → f j = ceL TrackR.cells 5 e j) ∧ (∀ j, k ≤ j → j < n → Ge B wr (e j).inn) ∧ (∀ b, b < v.heap.size → ¬ (TrackR.ent (some ⟨g, 0, none⟩) n e).S b → wr.heap[b]? = v.heap[b]?) ∧ v.heap.size ≤ wr.heap.size ∧ v.Since B wr) (fun _ i _ => n - (intOf i).toNat)
    case atStart => exact ⟨0, _, Nat.zero_le _, rfl, by simp [TrackR.tot], HG0.out, fun j _ _ => rfl, fun j _ hj => HIN0.out j hj, fun _ _ _ => rfl, Nat.le_refl _, World.Since.refl _ _⟩
    case round =>
      obtain ⟨k, f, hk, rfl, rfl, hgf, hff, hin, hoth, hsz, hs⟩ := hrel
      have HG := Lib.hid hgf; have HFF := Lib.hid hff; have HIN := Lib.hid hin; have HO := Lib.hid hoth; have HZ := Lib.hid hsz; have HS := Lib.hid hs
      clear hgf hff hin hoth hsz hs HG0 HIN0
      by_cases hlt : k < n
      · have hkk : k * 5 + 5 ≤ n * 5 := by omega
        have hts : TrackR.tot e k + (e k).sn ≤ TrackR.tot e n := TrackR.tot_le e (k := k + 1) hlt
        have HTK : Hid (TrackR.tot e (k + 1) = TrackR.tot e k + (e k).sn) := Lib.hid rfl
        have hn3 := HNS.out k hlt
        have hcell : wr.cell? ⟨g, k * 5 + 0, none⟩ = some (.slice (e k).sA (e k).sn (e k).sc) := by
          rw [HG.out.cell (j := k * 5 + 0) (by omega), HFF.out _ (by omega) (by omega), ceL_at e (by decide)]; rfl
        have hBw : B ≤ wr.heap.size := Nat.le_trans hB HZ.out
        have HM : Hid (∀ W K, Ge B W (e k).inn → B ≤ W.heap.size → K = ((k0 + TrackR.tot e k + k * 4 + 0 : Nat) : Int) → Calls Try.prog 29 #[.slice (e k).sA (e k).sn (e k).sc, .int .i64 K] W fun r1 v' => r1 = .returned (.int .i64 ((k0 + TrackR.tot e k + k * 4 + 0 + (e k).sn : Nat) : Int)) ∧ Ge B v' (fe (e k).sA (e k).sn (mk (k0 + TrackR.tot e k + k * 4 + 0) (e k).sn)) ∧ (∀ b, b < W.heap.size → ¬ (e k).inn.S b → v'.heap[b]? = W.heap[b]?) ∧ W.Since B v') := Lib.hid (fun W K hW hBW hK => mark_only (e k).sA (e k).sn (e k).sx (e k).sc _ K W B hW hBW hn3 (by omega) hK)
        have hgin : Hid (¬ (e k).inn.S g) := Lib.hid (fun h7 => HAL.out.1 k hlt g HSG.out h7)
        simp only [Nat.add_zero] at hcell
        have hgw : g < wr.heap.size := HG.out.lt
        go_wp2_with fail
        refine (HM.out _ _ (HIN.out k (Nat.le_refl _) hlt) hBw (by push_cast; omega)).mono ?_
        rintro e1 w2 ⟨rfl, hg2, ho2, hs2⟩
        have HG2 : Hid (GF w2 g 106 (n * 5) f) := Lib.hid (HG.out.of (ho2 g hgw hgin.out))
        have HO2 := Lib.hid ho2; have HS2 := Lib.hid hs2
        clear hg2 ho2 hs2 hcell
        have hd1 := HG2.out.cell (j := k * 5 + 1) (by omega)
        have hf1 := HG2.out.free (k * 5 + 1)
        have hd2 := HG2.out.cell (j := k * 5 + 2) (by omega)
        have hf2 := HG2.out.free (k * 5 + 2)
        have hd3 := HG2.out.cell (j := k * 5 + 3) (by omega)
        have hf3 := HG2.out.free (k * 5 + 3)
        have hd4 := HG2.out.cell (j := k * 5 + 4) (by omega)
        have hf4 := HG2.out.free (k * 5 + 4)
        (try simp only [Nat.add_zero] at hd1 hf1 hd2 hf2 hd3 hf3 hd4 hf4)
        go_wp2
        go_roundw
        case rel =>
          refine ⟨k + 1, _, by omega, by go_num, ?_, (((HG2.out.set (k * 5 + 1) _).set (k * 5 + 2) _).set (k * 5 + 3) _).set (k * 5 + 4) _, fun j hj hj2 => ?_, fun j hj hj2 => ?_, fun b hb hnb => ?_, ?_, ?_⟩
          · rw [HTK.out]; go_num
          · refine Eq.trans ?_ (HFF.out j (by omega) hj2)
            simp only [show ¬ j = k * 5 + 1 by omega, show ¬ j = k * 5 + 2 by omega, show ¬ j = k * 5 + 3 by omega, show ¬ j = k * 5 + 4 by omega, if_false, ite_false]
          · have hne : ∀ b, (e j).inn.S b → b ≠ g := fun b hb h8 => HAL.out.1 j hj2 g HSG.out (h8 ▸ hb)
            have hap : ∀ b, (e j).inn.S b → ¬ (e k).inn.S b := fun b hb h8 => HAL.out.2 j k hj2 hlt (by omega) b hb h8
            have h9 := HIN.out j (by omega) hj2
            refine h9.keep (fun b hb => ?_) (by simp only [Go.Deep.nblk_setCell]; exact HS2.out.size)
            rw [Go.Deep.blk_setCell_other _ _ _ _ (hne b hb)]; rw [Go.Deep.blk_setCell_other _ _ _ _ (hne b hb)]; rw [Go.Deep.blk_setCell_other _ _ _ _ (hne b hb)]; rw [Go.Deep.blk_setCell_other _ _ _ _ (hne b hb)]; exact HO2.out b (h9.2.2 b hb).2 (hap b hb)
          · have hne : b ≠ g := fun h8 => hnb (.inl (h8 ▸ HSG.out))
            have hap : ¬ (e k).inn.S b := fun h8 => hnb (.inr ⟨k, hlt, h8⟩)
            rw [Go.Deep.blk_setCell_other _ _ _ _ hne]; rw [Go.Deep.blk_setCell_other _ _ _ _ hne]; rw [Go.Deep.blk_setCell_other _ _ _ _ hne]; rw [Go.Deep.blk_setCell_other _ _ _ _ hne]; rw [HO2.out b (Nat.lt_of_lt_of_le hb HZ.out) hap]; exact HO.out b hb hnb
          · simp only [Go.Deep.nblk_setCell]; exact Nat.le_trans HZ.out HS2.out.size
          · exact (((((HS.out.trans HS2.out).setCell hg _).setCell hg _).setCell hg _).setCell hg _)
        case measure => simp [intOf]; omega
      · obtain rfl : k = n := by omega
        go_wp2
        go_ret
        exact ⟨rfl, HH.out.other HO.out HZ.out, HS.out⟩
  · obtain rfl : n = 0 := by omega
    clear h
    go_enter Try.func23, Try.ntmps23
    go_wp2
    go_loopw [1, 5] (fun kv i wr => i = .int .i64 0 ∧ kv = .int .i64 k0 ∧ wr = v) (fun _ _ _ => 0)
    case atStart => exact ⟨rfl, rfl, rfl⟩
    case round =>
      obtain ⟨rfl, rfl, rfl⟩ := hrel
      go_wp2
      go_ret
      exact ⟨by simp [TrackR.tot], HH.out.2, World.Since.refl _ _⟩
theorem TrackR.like_ok {x y : TrackR} (h : x.like y) (hy : y.ok) : x.ok := by
  obtain ⟨x_sA, x_sn, x_sc, x_sx, x_t, x_p, x_m, x_o⟩ := x
  obtain ⟨y_sA, y_sn, y_sc, y_sx, y_t, y_p, y_m, y_o⟩ := y
  simp only [TrackR.like, TrackR.ok] at *
  obtain ⟨rfl, rfl, rfl, rfl, rfl, rfl⟩ := h
  exact hy
theorem TrackR.like_tr {x y z : TrackR} (h : x.like z) (k : y.like z) : x.like y := by
  obtain ⟨x_sA, x_sn, x_sc, x_sx, x_t, x_p, x_m, x_o⟩ := x
  obtain ⟨y_sA, y_sn, y_sc, y_sx, y_t, y_p, y_m, y_o⟩ := y
  obtain ⟨w_sA, w_sn, w_sc, w_sx, w_t, w_p, w_m, w_o⟩ := z
  simp only [TrackR.like] at *
  obtain ⟨rfl, rfl, rfl, rfl, rfl, rfl⟩ := h
  obtain ⟨rfl, rfl, rfl, rfl, rfl, rfl⟩ := k
  exact ⟨rfl, rfl, rfl, rfl, rfl, rfl⟩
theorem TrackR.tot_like {e x : Nat → TrackR} {n : Nat} (h : ∀ k, k < n → (e k).like (x k)) : TrackR.tot e n = TrackR.tot x n := by
  induction n with
  | zero => rfl
  | succ n ih =>
    show TrackR.tot e n + (e n).sn = TrackR.tot x n + (x n).sn
    rw [ih fun k hk => h k (by omega), (h n (by omega)).1]
def TrackR.wf (W : World) (x : TrackR) : Prop := x.ok ∧ Fs W W.heap.size x.sA x.sn x.sx ∧ x.sn ≤ 9223372036854775807 ∧ (Lit.int .i64 x.t).wf = true
section
open Go.ChangeShapes Go.WideShapes Go.Deep
variable {H : Type} {enc : TypeId × Value → H} {P : Program} {w : World} {base : Nat}
theorem openTrack_row {t te : TypeId} {f0 f1 f2 f3 f4 : Field} (hs : P.underlying t = some (.struct #[f0, f1, f2, f3, f4])) (hone : oneCellFields P #[f0, f1, f2, f3, f4] = true) (hC : P.cellsOf t = 5) (hte : P.underlying te = some (.float .f32)) (hce : P.cellsOf te = 1) (h0 : P.underlying f0.type = some (.slice te)) (h1 : P.underlying f1.type = some (.int .i64)) (h2 : P.underlying f2.type = some (.float .f32)) (h3 : P.underlying f3.type = some (.bool)) (h4 : P.underlying f4.type = some (.bool))
    (fuel : Nat) (cs : List Value) (x : DataW H × List MemPlace) (h : DataW.trod enc P w base (fun _ => true) true fuel t cs = some x) : ∃ y : TrackR, y.wf w ∧ y.cells = cs := by
  obtain ⟨hl, hc⟩ := row_cells hs hone hC h
  obtain ⟨c0, y0, n0, e0, t0⟩ := hc 0 f0 rfl
  obtain ⟨xA, xn, xc, xx, hx0, w0, wn0⟩ := trod_fs h0 hte hce t0
  subst hx0
  obtain ⟨c1, y1, n1, e1, t1⟩ := hc 1 f1 rfl
  obtain ⟨x1, hx1, w1⟩ := trod_int h1 t1
  injection hx1 with hx1 _; subst hx1
  obtain ⟨c2, y2, n2, e2, t2⟩ := hc 2 f2 rfl
  obtain ⟨x2, hx2, w2⟩ := trod_fl h2 t2
  injection hx2 with hx2 _; subst hx2
  obtain ⟨c3, y3, n3, e3, t3⟩ := hc 3 f3 rfl
  obtain ⟨x3, hx3⟩ := trod_bool h3 t3
  injection hx3 with hx3 _; subst hx3
  obtain ⟨c4, y4, n4, e4, t4⟩ := hc 4 f4 rfl
  obtain ⟨x4, hx4⟩ := trod_bool h4 t4
  injection hx4 with hx4 _; subst hx4
  refine ⟨⟨xA, xn, xc, xx, x1, x2, x3, x4⟩, ⟨wf_f32 w2, w0, wn0, w1⟩, ?_⟩
  unfold TrackR.cells
  match cs, hl with
  | [d0, d1, d2, d3, d4], _ =>
    have g0 : d0 = _ := Option.some.inj e0
    have g1 : d1 = _ := Option.some.inj e1
    have g2 : d2 = _ := Option.some.inj e2
    have g3 : d3 = _ := Option.some.inj e3
    have g4 : d4 = _ := Option.some.inj e4
    rw [g0, g1, g2, g3, g4]
end
end Go.Proofs.Ytpcbniaagckjoaa

/- Valid tracks: of the model. -/
set_option linter.unusedVariables false
set_option linter.unusedSimpArgs false
namespace Go.Proofs.Ytpcbniaagckjoaa
open Fl Go.RowKit
def trackB (x : TrackR) : Bool := decide ((x.sn : Int) ≤ 256) && inB x.t (-2000) 2000 && panB x.p
def tracksIn (x : Nat → TrackR) (k : Nat) : Prop := ∀ j, j < k → trackB (x j) = true
def tracksOk (x : Nat → TrackR) (n : Nat) : Prop := tracksIn x n ∧ n ≤ 8
set_option maxHeartbeats 8000000 in
set_option maxRecDepth 100000 in
theorem specTracks_b (A : Option Addr) (n c : Nat) (x : Nat → TrackR) (r : Bool) (w : World) (B : Nat) (h : Rs TrackR.cells 5 w B A n x) (hB : B ≤ w.heap.size) (hn : n ≤ 1048576) (hr : r = true ↔ tracksOk x n) :
    Calls Try.prog 71 #[.slice A n c] w fun e w' => e = .returned (.bool r) ∧ w.Since w.heap.size w' := by
  have HA := Lib.hid h; have HR := Lib.hid hr
  clear h hr
  go_enter Try.func71, Try.ntmps71
  go_wp2
  go_loopw [6] (fun i wr => ∃ k : Nat, k ≤ n ∧ i = .int .i64 k ∧ tracksIn x k ∧ w.Since w.heap.size wr) (fun i _ => n - (intOf i).toNat)
  case atStart => exact ⟨0, Nat.zero_le _, rfl, (fun j hj => by omega), World.Since.refl _ _⟩
  case round =>
    obtain ⟨k, hk, rfl, hz, hs⟩ := hrel
    have HZ := Lib.hid hz; have HS := Lib.hid hs
    clear hz hs
    by_cases hlt : k < n
    · obtain ⟨g, off, hA, hg, hc⟩ := HA.out.at_ hlt
      have hc0 := (HS.out.cell (a := ⟨g, off + k * 5 + 0, none⟩) (by show g < _; omega)).trans (hc 0 (by decide))
      have hc1 := (HS.out.cell (a := ⟨g, off + k * 5 + 1, none⟩) (by show g < _; omega)).trans (hc 1 (by decide))
      have hc2 := (HS.out.cell (a := ⟨g, off + k * 5 + 2, none⟩) (by show g < _; omega)).trans (hc 2 (by decide))
      simp only [TrackR.cells, List.getD_cons_zero, List.getD_cons_succ, Nat.add_zero] at hc0 hc1 hc2
      clear hc
      have H1 := Lib.hid (fun b (hb : decide (((x k).sn : Int) ≤ 256) = b) (m : World) => (specFew_any (x k).sA (x k).sn (x k).sc b m hb))
      have H2 := Lib.hid (fun b (hb : inB (x k).t (-2000) 2000 = b) (m : World) => (specHold_b (x k).t (-2000) 2000 b m hb))
      have H3 := Lib.hid (fun b (hb : panB (x k).p = b) (m : World) => (specPan_b (x k).p b m hb))
      subst hA
      have hbad : Hid (trackB (x k) = false → r = false) := Lib.hid (fun h5 => by
        cases h6 : r
        · rfl
        · have h7 := (HR.out.1 h6).1 k hlt
          rw [h5] at h7; cases h7)
      have hgood : Hid (trackB (x k) = true → tracksIn x (k + 1)) := Lib.hid (fun h5 j hj => by
        by_cases e : j = k
        · subst e; exact h5
        · exact HZ.out j (by omega))
      unfold trackB at hbad hgood
      cases ho1 : decide (((x k).sn : Int) ≤ 256)
      · rw [ho1] at hbad
        have h6 := hbad.out rfl
        subst h6
        clear HR hbad hgood
        have HO1 := Lib.hid ho1; clear ho1
        go_wp2_with (first | (go_at_call 84; refine (H1.out false HO1.out _).mono ?_; rintro e w' ⟨rfl, rfl⟩))
        go_ret
        exact ⟨rfl, HS.out⟩
      · rw [ho1] at hbad hgood
        have HO1 := Lib.hid ho1; clear ho1
        cases ho2 : inB (x k).t (-2000) 2000
        · rw [ho2] at hbad
          have h6 := hbad.out rfl
          subst h6
          clear HR hbad hgood
          have HO2 := Lib.hid ho2; clear ho2
          go_wp2_with (first | (go_at_call 84; refine (H1.out true HO1.out _).mono ?_; rintro e w' ⟨rfl, rfl⟩) | (go_at_call 78; refine (H2.out false HO2.out _).mono ?_; rintro e w' ⟨rfl, rfl⟩))
          go_ret
          exact ⟨rfl, HS.out⟩
        · rw [ho2] at hbad hgood
          have HO2 := Lib.hid ho2; clear ho2
          cases ho3 : panB (x k).p
          · rw [ho3] at hbad
            have h6 := hbad.out rfl
            subst h6
            clear HR hbad hgood
            have HO3 := Lib.hid ho3; clear ho3
            go_wp2_with (first | (go_at_call 84; refine (H1.out true HO1.out _).mono ?_; rintro e w' ⟨rfl, rfl⟩) | (go_at_call 78; refine (H2.out true HO2.out _).mono ?_; rintro e w' ⟨rfl, rfl⟩) | (go_at_call 133; refine (H3.out false HO3.out _).mono ?_; rintro e w' ⟨rfl, rfl⟩))
            go_ret
            exact ⟨rfl, HS.out⟩
          · rw [ho3] at hgood
            have HG := Lib.hid (hgood.out rfl)
            have HO3 := Lib.hid ho3; clear ho3
            clear hgood hbad HR
            go_wp2_with (first | (go_at_call 84; refine (H1.out true HO1.out _).mono ?_; rintro e w' ⟨rfl, rfl⟩) | (go_at_call 78; refine (H2.out true HO2.out _).mono ?_; rintro e w' ⟨rfl, rfl⟩) | (go_at_call 133; refine (H3.out true HO3.out _).mono ?_; rintro e w' ⟨rfl, rfl⟩))
            go_roundw
            case rel => exact ⟨k + 1, by omega, by go_num, HG.out, HS.out⟩
            case measure => simp [intOf]; omega
    · obtain rfl : k = n := by omega
      cases h3 : decide ((k : Int) ≤ 8)
      · have h5 : r = false := by
          cases h6 : r
          · rfl
          · exact absurd (HR.out.1 h6).2 (by have := of_decide_eq_false h3; omega)
        subst h5
        clear HR
        go_wp2
        go_ret
        exact ⟨rfl, HS.out⟩
      · have h5 := HR.out.2 ⟨HZ.out, by have := of_decide_eq_true h3; omega⟩
        subst h5
        clear HR
        go_wp2
        go_ret
        exact ⟨rfl, HS.out⟩
end Go.Proofs.Ytpcbniaagckjoaa

/- Valid tracks: of the program. -/
set_option linter.unusedVariables false
set_option linter.unusedSimpArgs false
namespace Go.Proofs.Ytpcbniaagckjoaa
open Fl Go.RowKit
def panLO (p : Nat) : O := if panB p then panL (ab .f32 p) else some 0
def panRO (p : Nat) : O := if panB p then panR (ab .f32 p) else some 0
theorem implPan_any (p : Nat) (w : World) (hp : p < 4294967296) : Calls Try.prog 170 #[.float .f32 p] w (PVVB (panLO p) (panRO p) (panB p) w) := by
  unfold panLO panRO
  cases h : panB p
  · exact implPan_no p w h
  · exact implPan_ok p _ w (Lib.hid ⟨hp, rfl⟩) h
set_option maxHeartbeats 4000000 in
set_option maxRecDepth 100000 in
theorem stripOf_any (g o : Nat) (x : TrackR) (r : Bool) (w : World) (hr : trackB x = r) (hx : x.p < 4294967296) (hg : g < w.heap.size) (h0 : w.cell? ⟨g, o, none⟩ = some (.slice x.sA x.sn x.sc)) (h1 : w.cell? ⟨g, o + 1, none⟩ = some (.int .i64 x.t)) (h2 : w.cell? ⟨g, o + 2, none⟩ = some (.float .f32 x.p)) :
    Calls Try.prog 134 #[.pointer (some ⟨g, o, none⟩)] w fun e w' => ∃ a b c, e = .returned (.tuple #[.agg #[.pointer (some ⟨g, o, none⟩), .float .f32 a, .float .f32 b, .float .f32 c], .bool r]) ∧ Hid (Fv .f32 a (gainS x.t)) ∧ Hid (Fv .f32 b (panLO x.p)) ∧ Hid (Fv .f32 c (panRO x.p)) ∧ w.Since w.heap.size w' := by
  go_enter Try.func134, Try.ntmps134
  go_wp2_with fail
  generalize hW : World.alloc _ _ = V
  have hz : V.heap.size = w.heap.size + 1 := by rw [← hW]; simp
  have HS : Hid (w.Since w.heap.size V) := Lib.hid (by rw [← hW]; exact (World.Since.refl _ _).alloc (Nat.le_refl _) _)
  have G2 := Lib.hid (gfl (w := V) (T := 125) (l := [.pointer none, .float .f32 0, .float .f32 0, .float .f32 0]) (g := w.heap.size) (by rw [← hW]; exact Go.Deep.blk_alloc_new w _))
  have H0 := Lib.hid h0; have H1 := Lib.hid h1; have H2 := Lib.hid h2
  clear hW h0 h1 h2
  have c1 := (HS.out.cell (a := ⟨g, o + 1, none⟩) hg).trans H1.out
  go_wp2_with fail
  go_at_call 169
  refine (implGainOf_any x.t _).mono ?_
  rintro e w2 ⟨a, m, rfl, ha, rfl⟩
  have HA := Lib.hid ha
  have c2 := (HS.out.cell (a := ⟨g, o + 2, none⟩) hg).trans H2.out
  clear ha c1
  go_wp2_with fail
  go_at_call 170
  refine (implPan_any x.p _ hx).mono ?_
  rintro e w3 ⟨b, c, rfl, hb, hc, hs⟩
  have HB := Lib.hid hb; have HC := Lib.hid hc
  have HT := Lib.hid hs
  have HS3 : Hid (w.Since w.heap.size w3) := Lib.hid (since_step (since_drewN HS.out m) hs)
  have K2 : Hid (GF w3 w.heap.size 125 4 _) := Lib.hid (GF.of (w := V) G2.out (hs.block _ (by show w.heap.size < V.heap.size; omega)))
  have c0 := (HS3.out.cell (a := ⟨g, o, none⟩) hg).trans H0.out
  have b0 := K2.out.cell (j := 0) (by decide)
  have b1 := K2.out.cell (j := 1) (by decide)
  have b2 := K2.out.cell (j := 2) (by decide)
  have b3 := K2.out.cell (j := 3) (by decide)
  have d0 := K2.out.free 0
  have d1 := K2.out.free 1
  have d2 := K2.out.free 2
  have d3 := K2.out.free 3
  simp only [List.getD_cons_zero, List.getD_cons_succ] at b0 b1 b2 b3
  have hz3 : w.heap.size + 1 ≤ w3.heap.size := by have := hs.size; simp only [World.drewN] at this; omega
  clear hs hb hc c2
  have HRV : Hid (r = ((inB x.t (-2000) 2000 && panB x.p) && decide ((x.sn : Int) ≤ 256))) := Lib.hid (by rw [← hr]; unfold trackB; cases inB x.t (-2000) 2000 <;> cases panB x.p <;> cases decide ((x.sn : Int) ≤ 256) <;> rfl)
  clear hr
  cases hb1 : inB x.t (-2000) 2000 <;> cases hb2 : panB x.p <;> cases hb3 : decide ((x.sn : Int) ≤ 256)
  all_goals
    have e5 := HRV.out
    rw [hb1, hb2, hb3] at e5
    simp only [Bool.and_true, Bool.true_and, Bool.and_false, Bool.false_and] at e5
    subst e5
    clear HRV
    go_wp2_with (first | (go_at_call 102; refine (implSamples_b _ _ _ _ _ hb3).mono ?_; rintro e w' ⟨rfl, rfl⟩))
    refine bodyPost_ret (v := .tuple #[.agg #[.pointer (some ⟨g, o, none⟩), .float .f32 a, .float .f32 b, .float .f32 c], .bool _]) (by simp [results, Try.results134, go_sem, b0, b1, b2, b3, d0, d1, d2, d3]) rfl ⟨a, b, c, rfl, HA, HB.out, HC.out, ?_⟩
    have hs0 := HS3.out
    (repeat (first | (with_reducible refine Fl.sinDrew ?_) | (with_reducible refine World.Since.drew ?_) | (with_reducible refine Fl.sinSet ?_ ?_; rotate_left) | (with_reducible refine Fl.sinAlloc ?_ ?_; rotate_left) | with_reducible exact World.Since.refl _ _ | with_reducible assumption | (with_reducible refine Fl.sinStep (by with_reducible assumption) ?_))); all_goals (first | omega | (simp; done) | (simp; omega) | (simp [go_sem]; done) | (simp [go_sem]; omega))
end Go.Proofs.Ytpcbniaagckjoaa

/- Walks of laws whose arguments or results are lists. -/
set_option linter.unusedVariables false
set_option linter.unusedSimpArgs false
namespace Go.Proofs.Ytpcbniaagckjoaa
open Fl Go.RowKit
set_option maxHeartbeats 16000000 in
set_option maxRecDepth 100000 in
theorem lawAreTracks_gen (A0 : Option Addr) (n0 c0 : Nat) (x0 : Nat → TrackR) (rb0 : Bool) (w : World)
    (h0 : TrackR.Ts w w.heap.size A0 n0 x0) (hn0 : n0 ≤ 1048576) 
    (hk0 : ∀ k, k < n0 → (x0 k).ok)
    (hs0 : ∀ k, k < n0 → (x0 k).sn ≤ 1048576) (ht0 : TrackR.tot x0 n0 ≤ 1048576) (hf0 : (n0 : Int) + TrackR.tot x0 n0 ≤ 1048576)
    (hsp : ∀ (v : World) (b0 : Nat) (e0 : Nat → TrackR), TrackR.Ts v v.heap.size (some ⟨b0, 0, none⟩) n0 e0 → (∀ k, k < n0 → (e0 k).like (x0 k)) → Calls Try.prog 16 #[.slice (some ⟨b0, 0, none⟩) n0 n0] v (PB rb0 v))
    (him : ∀ (v : World) (b0 : Nat) (e0 : Nat → TrackR), TrackR.Ts v v.heap.size (some ⟨b0, 0, none⟩) n0 e0 → (∀ k, k < n0 → (e0 k).like (x0 k)) → Calls Try.prog 18 #[.slice (some ⟨b0, 0, none⟩) n0 n0] v (PB rb0 v)) :
    Calls Try.prog 3 #[.slice A0 n0 c0] w fun e w' => e = .returned (.bool true) ∧ w.Since w.heap.size w' := by
  have S0 : Hid (w.Since w.heap.size w) := Lib.hid (World.Since.refl _ _)
  have F0 : Hid (TrackR.Ts w w.heap.size A0 n0 x0) := Lib.hid (h0.now S0.out); clear h0
  have hd0 : decide ((1048576 : Int) < n0) = false := decide_eq_false (by omega)
  have HSP := Lib.hid hsp; have HIM := Lib.hid him; clear hsp him
  have hz0 : decide ((1048576 : Int) - n0 - (TrackR.tot x0 n0 : Nat) < 0) = false := decide_eq_false (by omega)
  have HK0 := Lib.hid hk0; clear hk0
  go_enter Try.func3, Try.ntmps3
  go_wp2_with fail
  have S : Hid (w.Since w.heap.size w) := Lib.hid (World.Since.refl _ _)
  have LV : Hid (He w.heap.size w []) := Lib.hid trivial
  go_at_call 15
  refine (szTrackS_any A0 n0 c0 x0 _ _ (F0.out.1.now S.out) (fun k hk => Nat.le_trans (hs0 k hk) (by decide)) (by omega) (by omega) _ (if_pos hf0).symm).mono ?_; rintro e wz0 ⟨rfl, hs⟩
  have S' := Lib.hid (since_step S.out hs); clear S; have S := S'; clear S'
  have LV' := Lib.hid (LV.out.since hs); clear LV; have LV := LV'; clear LV'; clear hs
  go_wp2_with fail
  go_at_call 17
  refine (toTrackS_any A0 n0 c0 x0 w _ F0.out S.out hn0 hs0).mono ?_
  rintro e v1 ⟨rfl, e_s0, hl, hg, hs⟩
  have HL_s0 := Lib.hid hl; clear hl
  have LV' := Lib.hid (LV.out.new hs hg S.out.size); clear LV; have LV := LV'; clear LV'
  have S' := Lib.hid (since_step S.out hs); clear S; have S := S'; clear S'
  clear hs hg
  go_wp2_with fail
  go_at_call 16
  refine (HSP.out _ _ e_s0 (TrackR.read (LV.out.1.1)) HL_s0.out).mono ?_
  rintro e v2 ⟨rfl, hs⟩
  have LV' := Lib.hid ((LV.out.2).since hs); clear LV; have LV := LV'; clear LV'
  have S' := Lib.hid (since_step S.out hs); clear S; have S := S'; clear S'
  clear hs
  go_wp2_with fail
  go_at_call 17
  refine (toTrackS_any A0 n0 c0 x0 w _ F0.out S.out hn0 hs0).mono ?_
  rintro e v3 ⟨rfl, e_y0, hl, hg, hs⟩
  have HL_y0 := Lib.hid hl; clear hl
  have LV' := Lib.hid (LV.out.new hs hg S.out.size); clear LV; have LV := LV'; clear LV'
  have S' := Lib.hid (since_step S.out hs); clear S; have S := S'; clear S'
  clear hs hg
  go_wp2_with fail
  go_at_call 18
  refine (HIM.out _ _ e_y0 (TrackR.read (LV.out.1.1)) HL_y0.out).mono ?_
  rintro e v4 ⟨rfl, hs⟩
  have LV' := Lib.hid ((LV.out).since hs); clear LV; have LV := LV'; clear LV'
  have S' := Lib.hid (since_step S.out hs); clear S; have S := S'; clear S'
  clear hs
  go_wp2_with fail
  go_at_call 17
  refine (toTrackS_any A0 n0 c0 x0 w _ F0.out S.out hn0 hs0).mono ?_
  rintro e v5 ⟨rfl, e_z0, hl, hg, hs⟩
  have HL_z0 := Lib.hid hl; clear hl
  have LV' := Lib.hid (LV.out.new hs hg S.out.size); clear LV; have LV := LV'; clear LV'
  have S' := Lib.hid (since_step S.out hs); clear S; have S := S'; clear S'
  clear hs hg
  go_wp2_with fail
  go_at_call 19
  refine (eqTrackS_any _ _ n0 _ _ e_y0 e_z0 _ (TrackR.read (LV.out.2.1.1)) (TrackR.read (LV.out.1.1)) hn0 (fun k hk => by rw [(HL_y0.out k hk).1]; exact hs0 k hk) (fun k hk => ⟨TrackR.like_ok (HL_y0.out k hk) (HK0.out k hk), TrackR.like_tr (HL_y0.out k hk) (HL_z0.out k hk)⟩)).mono ?_
  rintro e v6 ⟨rfl, hs⟩
  have S' := Lib.hid (since_step S.out hs); clear S; have S := S'; clear S'
  have LV' := Lib.hid (LV.out.since hs); clear LV; have LV := LV'; clear LV'
  clear hs
  have LV' := Lib.hid LV.out.2; clear LV; have LV := LV'; clear LV'
  go_wp2_with fail
  go_ret
  exact ⟨rfl, S.out⟩
set_option maxHeartbeats 2000000 in
set_option maxRecDepth 100000 in
theorem lawAreTracks_big (A0 : Option Addr) (n0 c0 : Nat) (x0 : Nat → TrackR) (w : World) (hr0 : Rs TrackR.cells 5 w w.heap.size A0 n0 x0) (hx0 : ∀ k, k < n0 → (x0 k).sn ≤ 9223372036854775807) (hb0 : n0 ≤ 9223372036854775807) (hf0 : ¬ (n0 : Int) + TrackR.tot x0 n0 ≤ 1048576)
    : Calls Try.prog 3 #[.slice A0 n0 c0] w fun e w' => e = .returned (.bool true) ∧ w.Since w.heap.size w' := by
  have HR0 := Lib.hid hr0; clear hr0
  by_cases h : (1048576 : Int) < n0
  · go_enter Try.func3, Try.ntmps3
    go_wp2_with (go_at_call 15; refine (szTrackS_big A0 n0 c0 _ _ (by omega) (by omega) (by omega) hb0).mono ?_; rintro e wz ⟨rfl, hs0⟩)
    go_ret
    exact ⟨rfl, hs0⟩
  · go_enter Try.func3, Try.ntmps3
    go_wp2_with (go_at_call 15; refine (szTrackS_any A0 n0 c0 x0 _ _ HR0.out (fun k hk => hx0 k hk) (by omega) (by omega) _ (if_neg hf0).symm).mono ?_; rintro e wz ⟨rfl, hs0⟩)
    go_ret
    exact ⟨rfl, hs0⟩
set_option maxHeartbeats 16000000 in
set_option maxRecDepth 100000 in
theorem lawHeardTracks_gen (A0 : Option Addr) (n0 c0 : Nat) (x0 : Nat → TrackR) (rn0 : Nat) (rf0 : List Int) (rb1 : Bool) (w : World)
    (h0 : TrackR.Ts w w.heap.size A0 n0 x0) (hn0 : n0 ≤ 1048576) (hr0 : rn0 ≤ 1048576)
    (hk0 : ∀ k, k < n0 → (x0 k).ok)
    (hs0 : ∀ k, k < n0 → (x0 k).sn ≤ 1048576) (ht0 : TrackR.tot x0 n0 ≤ 1048576) (hf0 : (n0 : Int) + TrackR.tot x0 n0 ≤ 1048576)
    (hsp : ∀ (v : World) (b0 : Nat) (e0 : Nat → TrackR), TrackR.Ts v v.heap.size (some ⟨b0, 0, none⟩) n0 e0 → (∀ k, k < n0 → (e0 k).like (x0 k)) → Calls Try.prog 20 #[.slice (some ⟨b0, 0, none⟩) n0 n0] v (PJB rn0 rf0 rb1 v))
    (him : ∀ (v : World) (b0 : Nat) (e0 : Nat → TrackR), TrackR.Ts v v.heap.size (some ⟨b0, 0, none⟩) n0 e0 → (∀ k, k < n0 → (e0 k).like (x0 k)) → Calls Try.prog 21 #[.slice (some ⟨b0, 0, none⟩) n0 n0] v (PJB rn0 rf0 rb1 v)) :
    Calls Try.prog 4 #[.slice A0 n0 c0] w fun e w' => e = .returned (.bool true) ∧ w.Since w.heap.size w' := by
  have S0 : Hid (w.Since w.heap.size w) := Lib.hid (World.Since.refl _ _)
  have F0 : Hid (TrackR.Ts w w.heap.size A0 n0 x0) := Lib.hid (h0.now S0.out); clear h0
  have hd0 : decide ((1048576 : Int) < n0) = false := decide_eq_false (by omega)
  have HSP := Lib.hid hsp; have HIM := Lib.hid him; clear hsp him
  have hz0 : decide ((1048576 : Int) - n0 - (TrackR.tot x0 n0 : Nat) < 0) = false := decide_eq_false (by omega)
  have HK0 := Lib.hid hk0; clear hk0
  go_enter Try.func4, Try.ntmps4
  go_wp2_with fail
  have S : Hid (w.Since w.heap.size w) := Lib.hid (World.Since.refl _ _)
  have LV : Hid (He w.heap.size w []) := Lib.hid trivial
  go_at_call 15
  refine (szTrackS_any A0 n0 c0 x0 _ _ (F0.out.1.now S.out) (fun k hk => Nat.le_trans (hs0 k hk) (by decide)) (by omega) (by omega) _ (if_pos hf0).symm).mono ?_; rintro e wz0 ⟨rfl, hs⟩
  have S' := Lib.hid (since_step S.out hs); clear S; have S := S'; clear S'
  have LV' := Lib.hid (LV.out.since hs); clear LV; have LV := LV'; clear LV'; clear hs
  go_wp2_with fail
  go_at_call 17
  refine (toTrackS_any A0 n0 c0 x0 w _ F0.out S.out hn0 hs0).mono ?_
  rintro e v1 ⟨rfl, e_s0, hl, hg, hs⟩
  have HL_s0 := Lib.hid hl; clear hl
  have LV' := Lib.hid (LV.out.new hs hg S.out.size); clear LV; have LV := LV'; clear LV'
  have S' := Lib.hid (since_step S.out hs); clear S; have S := S'; clear S'
  clear hs hg
  go_wp2_with fail
  go_at_call 20
  refine (HSP.out _ _ e_s0 (TrackR.read (LV.out.1.1)) HL_s0.out).mono ?_
  rintro e v2 ⟨w0, kw0, rfl, hnw0, hgw0, hfw0, hs⟩
  have LV' := Lib.hid ((LV.out.2).new hs hgw0.toE S.out.size); clear LV; have LV := LV'; clear LV'
  have S' := Lib.hid (since_step S.out hs); clear S; have S := S'; clear S'
  have Kw0 := Lib.hid hfw0; have Nw0 := Lib.hid hnw0; clear hfw0 hgw0 hnw0
  clear hs
  go_wp2_with fail
  go_at_call 17
  refine (toTrackS_any A0 n0 c0 x0 w _ F0.out S.out hn0 hs0).mono ?_
  rintro e v3 ⟨rfl, e_y0, hl, hg, hs⟩
  have HL_y0 := Lib.hid hl; clear hl
  have LV' := Lib.hid (LV.out.new hs hg S.out.size); clear LV; have LV := LV'; clear LV'
  have S' := Lib.hid (since_step S.out hs); clear S; have S := S'; clear S'
  clear hs hg
  go_wp2_with fail
  go_at_call 21
  refine (HIM.out _ _ e_y0 (TrackR.read (LV.out.1.1)) HL_y0.out).mono ?_
  rintro e v4 ⟨g0, kg0, rfl, hng0, hgg0, hfg0, hs⟩
  have LV' := Lib.hid ((LV.out).new hs hgg0.toE S.out.size); clear LV; have LV := LV'; clear LV'
  have S' := Lib.hid (since_step S.out hs); clear S; have S := S'; clear S'
  have Kg0 := Lib.hid hfg0; have Ng0 := Lib.hid hng0; clear hfg0 hgg0 hng0
  clear hs
  go_wp2_with fail
  go_at_call 22
  refine (eqJ_any g0 w0 _ _ _ _ (LV.out.1.1).readI (LV.out.2.2.1.1).readI (by rw [Ng0.out]; exact hr0) (Nw0.out.trans Ng0.out.symm) Kg0.out Kw0.out).mono ?_
  rintro e v5 ⟨rfl, hs⟩
  have S' := Lib.hid (since_step S.out hs); clear S; have S := S'; clear S'
  have LV' := Lib.hid (LV.out.since hs); clear LV; have LV := LV'; clear LV'
  clear hs
  go_wp2_with fail
  go_at_call 17
  refine (toTrackS_any A0 n0 c0 x0 w _ F0.out S.out hn0 hs0).mono ?_
  rintro e v6 ⟨rfl, e_z0, hl, hg, hs⟩
  have HL_z0 := Lib.hid hl; clear hl
  have LV' := Lib.hid (LV.out.new hs hg S.out.size); clear LV; have LV := LV'; clear LV'
  have S' := Lib.hid (since_step S.out hs); clear S; have S := S'; clear S'
  clear hs hg
  go_wp2_with fail
  go_at_call 19
  refine (eqTrackS_any _ _ n0 _ _ e_y0 e_z0 _ (TrackR.read (LV.out.2.2.1.1)) (TrackR.read (LV.out.1.1)) hn0 (fun k hk => by rw [(HL_y0.out k hk).1]; exact hs0 k hk) (fun k hk => ⟨TrackR.like_ok (HL_y0.out k hk) (HK0.out k hk), TrackR.like_tr (HL_y0.out k hk) (HL_z0.out k hk)⟩)).mono ?_
  rintro e v7 ⟨rfl, hs⟩
  have S' := Lib.hid (since_step S.out hs); clear S; have S := S'; clear S'
  have LV' := Lib.hid (LV.out.since hs); clear LV; have LV := LV'; clear LV'
  clear hs
  have LV' := Lib.hid LV.out.2; clear LV; have LV := LV'; clear LV'
  go_wp2_with fail
  go_at_call 23
  have T_y0 : TrackR.tot e_y0 n0 = TrackR.tot x0 n0 := TrackR.tot_like HL_y0.out
  refine (markTrackS_any v2.heap.size n0 e_y0 _ (1) _ _ _ _ (He.front [_] LV.out) S.out.size (hn0) (fun k hk => by rw [(HL_y0.out k hk).1]; exact hs0 k hk) (by rw [T_y0]; exact ht0) (by have := Ng0.out; omega) (by first | rfl | omega | (push_cast; omega))).mono ?_
  rw [T_y0]
  rintro e v8 ⟨rfl, hlv, hs⟩
  have LV' := Lib.hid hlv; clear LV hlv; have LV := LV'; clear LV'
  have S' := Lib.hid (since_mark S.out hs); clear S hs; have S := S'; clear S'; clear T_y0
  go_wp2_with fail
  go_at_call 22
  refine (eqJ_any g0 w0 _ _ _ _ (LV.out.1.1).readI (LV.out.2.1.1).readI (by rw [Ng0.out]; exact hr0) (Nw0.out.trans Ng0.out.symm) Kg0.out Kw0.out).mono ?_
  rintro e v9 ⟨rfl, hs⟩
  have S' := Lib.hid (since_step S.out hs); clear S; have S := S'; clear S'
  have LV' := Lib.hid (LV.out.since hs); clear LV; have LV := LV'; clear LV'
  clear hs
  go_wp2_with fail
  go_at_call 24
  refine (markIE_any g0.A g0.n g0.xs _ (1) _ _ _ _ (LV.out) (by rw [Ng0.out]; exact hr0) (by have := Ng0.out; omega) (by first | rfl | omega | (push_cast; omega))).mono ?_
  rintro e v10 ⟨rfl, hlv, hs⟩
  have LV' := Lib.hid hlv; clear LV hlv; have LV := LV'; clear LV'
  have S' := Lib.hid (since_mark S.out hs); clear S hs; have S := S'; clear S'
  go_wp2_with fail
  go_at_call 25
  refine (heldIE_any g0.A g0.n _ (1) _ _ _ ((LV.out.1.1)) (by rw [Ng0.out]; exact hr0) (by have := Ng0.out; omega) (by first | rfl | omega | (push_cast; omega))).mono ?_
  rintro e v ⟨rfl, rfl⟩
  go_wp2_with fail
  go_at_call 17
  refine (toTrackS_any A0 n0 c0 x0 w _ F0.out S.out hn0 hs0).mono ?_
  rintro e v11 ⟨rfl, e_t0, hl, hg, hs⟩
  have HL_t0 := Lib.hid hl; clear hl
  have LV' := Lib.hid (LV.out.new hs hg S.out.size); clear LV; have LV := LV'; clear LV'
  have S' := Lib.hid (since_step S.out hs); clear S; have S := S'; clear S'
  clear hs hg
  go_wp2_with fail
  go_at_call 21
  refine (HIM.out _ _ e_t0 (TrackR.read (LV.out.1.1)) HL_t0.out).mono ?_
  rintro e v12 ⟨h0, kh0, rfl, hnh0, hgh0, hfh0, hs⟩
  have LV' := Lib.hid ((LV.out.2).new hs hgh0.toE S.out.size); clear LV; have LV := LV'; clear LV'
  have S' := Lib.hid (since_step S.out hs); clear S; have S := S'; clear S'
  have Kh0 := Lib.hid hfh0; have Nh0 := Lib.hid hnh0; clear hfh0 hgh0 hnh0
  clear hs
  go_wp2_with fail
  go_at_call 22
  refine (eqJ_any h0 w0 _ _ _ _ (LV.out.1.1).readI (LV.out.2.2.1.1).readI (by rw [Nh0.out]; exact hr0) (Nw0.out.trans Nh0.out.symm) Kh0.out Kw0.out).mono ?_
  rintro e v13 ⟨rfl, hs⟩
  have S' := Lib.hid (since_step S.out hs); clear S; have S := S'; clear S'
  have LV' := Lib.hid (LV.out.since hs); clear LV; have LV := LV'; clear LV'
  clear hs
  go_wp2_with fail
  go_at_call 25
  refine (heldIE_any g0.A g0.n _ (1) _ _ _ ((LV.out.2.1.1)) (by rw [Ng0.out]; exact hr0) (by have := Ng0.out; omega) (by first | rfl | omega | (push_cast; omega))).mono ?_
  rintro e v ⟨rfl, rfl⟩
  go_wp2_with fail
  go_ret
  exact ⟨rfl, S.out⟩
set_option maxHeartbeats 2000000 in
set_option maxRecDepth 100000 in
theorem lawHeardTracks_big (A0 : Option Addr) (n0 c0 : Nat) (x0 : Nat → TrackR) (w : World) (hr0 : Rs TrackR.cells 5 w w.heap.size A0 n0 x0) (hx0 : ∀ k, k < n0 → (x0 k).sn ≤ 9223372036854775807) (hb0 : n0 ≤ 9223372036854775807) (hf0 : ¬ (n0 : Int) + TrackR.tot x0 n0 ≤ 1048576)
    : Calls Try.prog 4 #[.slice A0 n0 c0] w fun e w' => e = .returned (.bool true) ∧ w.Since w.heap.size w' := by
  have HR0 := Lib.hid hr0; clear hr0
  by_cases h : (1048576 : Int) < n0
  · go_enter Try.func4, Try.ntmps4
    go_wp2_with (go_at_call 15; refine (szTrackS_big A0 n0 c0 _ _ (by omega) (by omega) (by omega) hb0).mono ?_; rintro e wz ⟨rfl, hs0⟩)
    go_ret
    exact ⟨rfl, hs0⟩
  · go_enter Try.func4, Try.ntmps4
    go_wp2_with (go_at_call 15; refine (szTrackS_any A0 n0 c0 x0 _ _ HR0.out (fun k hk => hx0 k hk) (by omega) (by omega) _ (if_neg hf0).symm).mono ?_; rintro e wz ⟨rfl, hs0⟩)
    go_ret
    exact ⟨rfl, hs0⟩
end Go.Proofs.Ytpcbniaagckjoaa

/- Strips of tracks; the law of AreTracks. -/
set_option linter.unusedVariables false
set_option linter.unusedSimpArgs false
namespace Go.Proofs.Ytpcbniaagckjoaa
open Fl Go.RowKit
structure StripR where
  p : Option Addr
  a : Nat
  b : Nat
  c : Nat
def StripR.cells (x : StripR) : List Value := [.pointer x.p, .float .f32 x.a, .float .f32 x.b, .float .f32 x.c]
def StripR.zero : StripR := ⟨none, 0, 0, 0⟩
/-- the strip of a track that lies there -/
def StripR.of (s : StripR) (ad : Addr) (x : TrackR) : Prop := s.p = some ad ∧ Hid (Fv .f32 s.a (gainS x.t)) ∧ Hid (Fv .f32 s.b (panLO x.p)) ∧ Hid (Fv .f32 s.c (panRO x.p))
theorem Try.infoStrip : (Try.prog.info? 125).map (fun i => (i.zero, i.size, decide (i.bytes ≤ 1024))) = some (some (.agg #[.pointer none, .float .f32 0, .float .f32 0, .float .f32 0]), 4, true) := by kernel_rfl
set_option maxHeartbeats 8000000 in
set_option maxRecDepth 100000 in
theorem stripsOf_in (g off n c : Nat) (x : Nat → TrackR) (r : Bool) (w : World) (B : Nat) (h : Rs TrackR.cells 5 w B (some ⟨g, off, none⟩) n x) (hg : 0 < n → g < w.heap.size) (hx : ∀ k, k < n → (x k).ok) (h8 : n ≤ 8) (hr : r = true ↔ tracksIn x n) :
    Calls Try.prog 73 #[.slice (some ⟨g, off, none⟩) n c] w fun e w' => ∃ v, e = .returned (.tuple #[v, .bool r]) ∧ (r = true → ∃ (b : Nat) (f : Nat → StripR), w.heap.size ≤ b ∧ v = .slice (some ⟨b, 0, none⟩) n n ∧ GF w' b 125 (n * 4) (ceL StripR.cells 4 f) ∧ ∀ k, k < n → (f k).of ⟨g, off + k * 5, none⟩ (x k)) ∧ w.Since w.heap.size w' := by
  have HA := Lib.hid h; have HX := Lib.hid hx; have HR := Lib.hid hr; have HG := Lib.hid hg
  clear h hx hr hg
  obtain ⟨i0, hi, hzz⟩ := Option.map_eq_some_iff.1 Try.infoStrip
  simp only [Prod.mk.injEq] at hzz
  obtain ⟨hz0, hz1, hz2⟩ := hzz
  have hby : i0.bytes ≤ 1024 := of_decide_eq_true hz2
  have hbn : (i0.bytes : Int) * (n : Int) ≤ 281474976710656 := by
    have : i0.bytes * n ≤ 1024 * 1048576 := Nat.mul_le_mul hby (by omega)
    rw [← Int.natCast_mul]
    omega
  have hmk := fun (w : World) => run_make (P := Try.prog) w 108 125 i0 (.agg #[.pointer none, .float .f32 0, .float .f32 0, .float .f32 0]) Try.underlying108 hi hz0 .i64 .i64 (n : Int) (n : Int) (by omega) (Int.le_refl _) hbn (by omega)
  simp only [Int.toNat_natCast, hz1] at hmk
  have hzc : (Value.agg #[.pointer none, .float .f32 0, .float .f32 0, .float .f32 0]).cells = #[.pointer none, .float .f32 0, .float .f32 0, .float .f32 0] := by rfl
  rw [hzc] at hmk
  have hzero : (StripR.cells StripR.zero).toArray = #[.pointer none, .float .f32 0, .float .f32 0, .float .f32 0] := rfl
  have hmd := Lib.hid (GF.made (cells := StripR.cells) (s := 4) w 125 #[.pointer none, .float .f32 0, .float .f32 0, .float .f32 0] StripR.zero n hzero rfl (by decide))
  have hn8 : decide ((8 : Int) < n) = false := decide_eq_false (by omega)
  clear hi hz0 hz1 hz2 hby hbn hzc hzero
  go_enter Try.func73, Try.ntmps73
  go_wp2
  go_loopw [16] (fun i wr => ∃ (k : Nat) (f : Nat → StripR), k ≤ n ∧ i = .int .i64 (k : Nat) ∧ tracksIn x k ∧ (∀ j, j < k → (f j).of ⟨g, off + j * 5, none⟩ (x j)) ∧ GF wr w.heap.size 125 (n * 4) (ceL StripR.cells 4 fun i => if i < k then f i else StripR.zero) ∧ w.Since w.heap.size wr) (fun i _ => n - (intOf i).toNat)
  case atStart => exact ⟨0, fun _ => StripR.zero, Nat.zero_le _, rfl, (fun j hj => by omega), (fun j hj => by omega), hmd.out, (World.Since.refl _ _).alloc (Nat.le_refl _) _⟩
  case round =>
    obtain ⟨k, f, hk, rfl, htr, hof, hgf, hs⟩ := hrel
    have HT := Lib.hid htr; have HF := Lib.hid hof; have HGF := Lib.hid hgf; have HS := Lib.hid hs
    have hzw : w.heap.size < wr.heap.size := hgf.lt
    clear htr hof hgf hs hmd
    by_cases hlt : k < n
    · obtain ⟨_, _, e1, _, hc⟩ := HA.out.at_ hlt
      injection e1 with e1; injection e1 with e1 e2 _; subst e1; subst e2
      have hgw := HG.out (by omega)
      have hc0 := (HS.out.cell (a := ⟨g, off + k * 5 + 0, none⟩) hgw).trans (hc 0 (by decide))
      have hc1 := (HS.out.cell (a := ⟨g, off + k * 5 + 1, none⟩) hgw).trans (hc 1 (by decide))
      have hc2 := (HS.out.cell (a := ⟨g, off + k * 5 + 2, none⟩) hgw).trans (hc 2 (by decide))
      simp only [TrackR.cells, List.getD_cons_zero, List.getD_cons_succ, Nat.add_zero] at hc0 hc1 hc2
      clear hc
      have HQ := Lib.hid (fun b (hb : trackB (x k) = b) => stripOf_any g (off + k * 5) (x k) b wr hb (HX.out k hlt) (by omega) hc0 hc1 hc2)
      clear hc0 hc1 hc2
      cases ho : trackB (x k)
      · have h6 : r = false := by
          cases h6 : r
          · rfl
          · have h7 := HR.out.1 h6 k hlt
            rw [ho] at h7; cases h7
        subst h6
        clear HR
        have HQ1 := Lib.hid (HQ.out false ho)
        go_wp2_with fail
        go_at_call 134
        refine HQ1.out.mono ?_
        rintro e w2 ⟨a, b, c2, rfl, ha, hb, hc, hs2⟩
        have HS2 := Lib.hid (since_step HS.out hs2); clear hs2
        have hz2 := HS2.out.size
        go_wp2
        go_ret2
        exact ⟨_, rfl, (fun h => by cases h), HS2.out.alloc hz2 _⟩
      · have HO := Lib.hid ho
        have HQ1 := Lib.hid (HQ.out true ho)
        clear ho
        go_wp2_with fail
        go_at_call 134
        refine HQ1.out.mono ?_
        rintro e w2 ⟨a, b, c2, rfl, ha, hb, hc, hs2⟩
        have HS2 := Lib.hid (since_step HS.out hs2)
        have HG2 := Lib.hid (HGF.out.of (hs2.block _ hzw))
        have HNEW : Hid (StripR.of ⟨some ⟨g, off + k * 5, none⟩, a, b, c2⟩ ⟨g, off + k * 5, none⟩ (x k)) := Lib.hid ⟨rfl, ha, hb, hc⟩
        have hkk : k * 4 + 4 ≤ n * 4 := by omega
        have hz2 : w.heap.size < w2.heap.size := Nat.lt_of_lt_of_le hzw hs2.size
        have hzz2 := HS2.out.size
        have HE := Lib.hid (show ∀ j, j < n * 4 → ceL StripR.cells 4 (fun i => if i < k + 1 then (if i = k then (⟨some ⟨g, off + k * 5, none⟩, a, b, c2⟩ : StripR) else f i) else StripR.zero) j = if k * 4 ≤ j ∧ j < k * 4 + 4 then ((⟨some ⟨g, off + k * 5, none⟩, a, b, c2⟩ : StripR).cells).getD (j - k * 4) undef else ceL StripR.cells 4 (fun i => if i < k then f i else StripR.zero) j from fun j hj => by
          rw [← ceL_upd _ k (⟨some ⟨g, off + k * 5, none⟩, a, b, c2⟩ : StripR) (by decide) j]
          congr 1
          funext i
          unfold upd
          by_cases h1 : i = k
          · subst h1; rw [if_pos (by omega), if_pos rfl, if_pos rfl]
          · rw [if_neg h1, if_neg h1]
            by_cases h2 : i < k
            · rw [if_pos (by omega)]; simp only [if_pos h2]
            · rw [if_neg (by omega)]; simp only [if_neg h2])
        clear hs2 ha hb hc
        have hd0 := HG2.out.cell (j := k * 4 + 0) (by omega)
        have hd1 := HG2.out.cell (j := k * 4 + 1) (by omega)
        have hd2 := HG2.out.cell (j := k * 4 + 2) (by omega)
        have hd3 := HG2.out.cell (j := k * 4 + 3) (by omega)
        have hf0 := HG2.out.free (k * 4 + 0)
        have hf1 := HG2.out.free (k * 4 + 1)
        have hf2 := HG2.out.free (k * 4 + 2)
        have hf3 := HG2.out.free (k * 4 + 3)
        simp only [Nat.add_zero] at hd0 hf0
        generalize ceL StripR.cells 4 (fun i => if i < k then f i else StripR.zero) (k * 4) = u0q at hd0
        generalize ceL StripR.cells 4 (fun i => if i < k then f i else StripR.zero) (k * 4 + 1) = u1q at hd1
        generalize ceL StripR.cells 4 (fun i => if i < k then f i else StripR.zero) (k * 4 + 2) = u2q at hd2
        generalize ceL StripR.cells 4 (fun i => if i < k then f i else StripR.zero) (k * 4 + 3) = u3q at hd3
        go_wp2
        go_roundw
        case rel =>
          refine ⟨k + 1, fun i => if i = k then (⟨some ⟨g, off + k * 5, none⟩, a, b, c2⟩ : StripR) else f i, by omega, by go_num, fun j hj => ?_, fun j hj => ?_, ?_, (((((HS2.out.setCell (Nat.le_refl _) _).setCell (Nat.le_refl _) _).setCell (Nat.le_refl _) _).setCell (Nat.le_refl _) _).alloc (by simp only [Go.Deep.nblk_setCell]; exact hzz2) _)⟩
          · by_cases e : j = k
            · subst e; exact HO.out
            · exact HT.out j (by omega)
          · show StripR.of (if j = k then (⟨some ⟨g, off + k * 5, none⟩, a, b, c2⟩ : StripR) else f j) _ _
            by_cases e : j = k
            · subst e; rw [if_pos rfl]; exact HNEW.out
            · rw [if_neg e]; exact HF.out j (by omega)
          · refine (GF.of ((((HG2.out.set (k * 4) _).set (k * 4 + 1) _).set (k * 4 + 2) _).set (k * 4 + 3) _) (((World.Since.refl _ _).alloc (Nat.le_refl _) _).block _ (by simp only [Go.Deep.nblk_setCell]; exact hz2))).congr (fun j hj => ?_)
            rw [HE.out j hj]
            by_cases h : k * 4 ≤ j ∧ j < k * 4 + 4
            · rw [if_pos h]
              obtain rfl | rfl | rfl | rfl : j = k * 4 + 0 ∨ j = k * 4 + 1 ∨ j = k * 4 + 2 ∨ j = k * 4 + 3 := by omega
              all_goals simp [StripR.cells]
            · rw [if_neg h, if_neg (by omega), if_neg (by omega), if_neg (by omega), if_neg (by omega)]
        case measure => simp [intOf]; omega
    · obtain rfl : k = n := by omega
      have h5 := HR.out.2 HT.out
      subst h5
      clear HR
      go_wp2
      go_ret2
      refine ⟨_, rfl, ⟨w.heap.size, Nat.le_refl _, rfl, f, HGF.out.congr (fun j hj => ?_), HF.out⟩, HS.out⟩
      unfold ceL
      dsimp only
      rw [if_pos (Nat.div_lt_of_lt_mul (by rw [Nat.mul_comm]; exact hj))]
end Go.Proofs.Ytpcbniaagckjoaa

/- The law of AreTracks. -/
set_option linter.unusedVariables false
set_option linter.unusedSimpArgs false
namespace Go.Proofs.Ytpcbniaagckjoaa
open Fl Go.RowKit
theorem trackB_like {x y : TrackR} (h : x.like y) : trackB x = trackB y := by
  obtain ⟨h1, h2, h3, h4, h5, h6⟩ := h
  unfold trackB
  rw [h1, h3, h4]
theorem tracksOk_like {e x : Nat → TrackR} {n : Nat} (h : ∀ k, k < n → (e k).like (x k)) : tracksOk e n ↔ tracksOk x n := by
  unfold tracksOk tracksIn
  constructor
  · exact fun ⟨h1, h2⟩ => ⟨fun j hj => (trackB_like (h j hj)) ▸ h1 j hj, h2⟩
  · exact fun ⟨h1, h2⟩ => ⟨fun j hj => (trackB_like (h j hj)).symm ▸ h1 j hj, h2⟩
/-- what stripsOf gives: the strips, where the tracks are valid -/
def StripsP (g off n : Nat) (x : Nat → TrackR) (r : Bool) (w : World) (e : Ending) (w' : World) : Prop :=
  ∃ v, e = .returned (.tuple #[v, .bool r]) ∧ (r = true → ∃ (b : Nat) (f : Nat → StripR), w.heap.size ≤ b ∧ v = .slice (some ⟨b, 0, none⟩) n n ∧ GF w' b 125 (n * 4) (ceL StripR.cells 4 f) ∧ ∀ k, k < n → (f k).of ⟨g, off + k * 5, none⟩ (x k)) ∧ w.Since w.heap.size w'
theorem stripsOf_any (g off n c : Nat) (x : Nat → TrackR) (r : Bool) (w : World) (h : Rs TrackR.cells 5 w w.heap.size (some ⟨g, off, none⟩) n x) (hx : ∀ k, k < n → (x k).ok) (hn : n ≤ 1048576) (hr : r = true ↔ tracksOk x n) :
    Calls Try.prog 73 #[.slice (some ⟨g, off, none⟩) n c] w (StripsP g off n x r w) := by
  unfold StripsP
  by_cases h8 : n ≤ 8
  · exact stripsOf_in g off n c x r w _ h (fun h0 => by obtain ⟨_, _, e1, h2, _⟩ := h.at_ h0; injection e1 with e1; injection e1 with e1 _ _; omega) hx h8 (hr.trans ⟨fun h => h.1, fun h => ⟨h, h8⟩⟩)
  · have h6 : r = false := by
      cases h6 : r
      · rfl
      · exact absurd (hr.1 h6).2 h8
    subst h6
    clear hr h
    have h7 : decide ((8 : Int) < n) = true := decide_eq_true (by omega)
    go_enter Try.func73, Try.ntmps73
    go_wp2
    go_ret2
    exact ⟨_, rfl, (fun h => by cases h), World.Since.refl _ _⟩
theorem implAreTracks_b (g off n c : Nat) (x : Nat → TrackR) (r : Bool) (w : World) (h : Rs TrackR.cells 5 w w.heap.size (some ⟨g, off, none⟩) n x) (hx : ∀ k, k < n → (x k).ok) (hn : n ≤ 1048576) (hr : r = true ↔ tracksOk x n) :
    Calls Try.prog 18 #[.slice (some ⟨g, off, none⟩) n c] w (PB r w) := by
  unfold PB
  have HQ := Lib.hid (stripsOf_any g off n c x r w h hx hn hr)
  clear h hr
  go_enter Try.func18, Try.ntmps18
  go_wp2_with (go_at_call 73; refine HQ.out.mono ?_; rintro e w2 ⟨v, rfl, hv, hs⟩; have HS := Lib.hid hs; clear hv hs)
  go_ret
  exact ⟨rfl, HS.out⟩
theorem specAreTracks_b (A : Option Addr) (n c : Nat) (x : Nat → TrackR) (r : Bool) (w : World) (h : Rs TrackR.cells 5 w w.heap.size A n x) (hn : n ≤ 1048576) (hr : r = true ↔ tracksOk x n) :
    Calls Try.prog 16 #[.slice A n c] w (PB r w) := by
  unfold PB
  have HA := Lib.hid h; have HR := Lib.hid hr
  clear h hr
  go_enter Try.func16, Try.ntmps16
  go_wp2_with (go_at_call 71; refine (specTracks_b A n c x r _ _ HA.out (Nat.le_refl _) hn HR.out).mono ?_; rintro e w2 ⟨rfl, hs⟩)
  go_ret
  exact ⟨rfl, hs⟩
theorem tracks_fit (x : Nat → TrackR) (n : Nat) (h : (n : Int) + TrackR.tot x n ≤ 1048576) : (∀ k, k < n → (x k).sn ≤ 1048576) ∧ TrackR.tot x n ≤ 1048576 ∧ n ≤ 1048576 :=
  ⟨fun k hk => by
    have h1 : TrackR.tot x k + (x k).sn ≤ TrackR.tot x n := TrackR.tot_le x (k := k + 1) hk
    omega, by omega, by omega⟩
open Classical in
theorem lawAreTracks_any (A0 : Option Addr) (n0 c0 : Nat) (x0 : Nat → TrackR) (w : World)
    (h0 : Rs TrackR.cells 5 w w.heap.size A0 n0 x0) (hk0 : ∀ k, k < n0 → (x0 k).wf w) (hb0 : n0 ≤ 9223372036854775807) :
    Calls Try.prog 3 #[.slice A0 n0 c0] w fun e w' => e = .returned (.bool true) ∧ w.Since w.heap.size w' := by
  by_cases h : (n0 : Int) + TrackR.tot x0 n0 ≤ 1048576
  · obtain ⟨h1, h2, h3⟩ := tracks_fit x0 n0 h
    have hr : (decide (tracksOk x0 n0)) = true ↔ tracksOk x0 n0 := decide_eq_true_iff
    exact lawAreTracks_gen A0 n0 c0 x0 _ w ⟨h0, fun k hk => (hk0 k hk).2.1⟩ h3 (fun k hk => (hk0 k hk).1) h1 h2 h
      (fun v b e ht hl => specAreTracks_b _ _ _ e _ _ ht.1 h3 (hr.trans (tracksOk_like hl).symm))
      (fun v b e ht hl => implAreTracks_b b 0 _ _ e _ _ ht.1 (fun k hk => TrackR.like_ok (hl k hk) (hk0 k hk).1) h3 (hr.trans (tracksOk_like hl).symm))
  · exact lawAreTracks_big A0 n0 c0 x0 w h0 (fun k hk => (hk0 k hk).2.2.1) hb0 h
end Go.Proofs.Ytpcbniaagckjoaa

