/- Joined: Oh Oi Oj Ok -/
import Derived.Test.YtpcbniaagckjoaaOz
/- Tracks that are heard: of the model. -/
set_option linter.unusedVariables false
set_option linter.unusedSimpArgs false
namespace Go.Proofs.Ytpcbniaagckjoaa
open Fl Go.RowKit
def soloB (x : Nat → TrackR) : Nat → Bool
  | 0 => false
  | k + 1 => soloB x k || (x k).o
def hearB (s : Bool) (t : TrackR) : Bool := !t.m && (t.o || !s)
/-- those of the first numbers for which b holds -/
def listL (b : Nat → Bool) : Nat → List Int
  | 0 => []
  | k + 1 => if b k then listL b k ++ [(k : Int)] else listL b k
theorem listL_len (b : Nat → Bool) : ∀ n, (listL b n).length ≤ n
  | 0 => Nat.le_refl _
  | n + 1 => by
    unfold listL
    have := listL_len b n
    split
    · simp; exact this
    · omega
theorem listL_more (b : Nat → Bool) (n : Nat) (h : ∀ k, n ≤ k → b k = false) : ∀ d, listL b (n + d) = listL b n
  | 0 => rfl
  | d + 1 => by
    have e : listL b (n + d + 1) = if b (n + d) then listL b (n + d) ++ [((n + d : Nat) : Int)] else listL b (n + d) := rfl
    rw [← Nat.add_assoc, e, if_neg (by rw [h (n + d) (by omega)]; decide)]
    exact listL_more b n h d
theorem listL_congr {a b : Nat → Bool} : ∀ n, (∀ k, k < n → a k = b k) → listL a n = listL b n
  | 0, _ => rfl
  | n + 1, h => by
    unfold listL
    rw [h n (by omega), listL_congr n fun k hk => h k (by omega)]
def heardL (x : Nat → TrackR) (n : Nat) : List Int := listL (fun k => hearB (soloB x n) (x k)) n
theorem soloB_like {e x : Nat → TrackR} : ∀ n, (∀ k, k < n → (e k).like (x k)) → soloB e n = soloB x n
  | 0, _ => rfl
  | n + 1, h => by
    unfold soloB
    rw [soloB_like n fun k hk => h k (by omega), (h n (by omega)).2.2.2.2.2]
theorem heardL_like {e x : Nat → TrackR} {n : Nat} (h : ∀ k, k < n → (e k).like (x k)) : heardL e n = heardL x n := by
  unfold heardL
  rw [soloB_like n h]
  refine listL_congr n fun k hk => ?_
  unfold hearB
  rw [(h k hk).2.2.2.2.1, (h k hk).2.2.2.2.2]
/-- a list of integers -/
def PJ (f0 : List Int) (w : World) (e : Ending) (w' : World) : Prop :=
  ∃ (p : Li) (c : Nat), e = .returned (.slice p.A p.n c) ∧ p.n = f0.length ∧ IGs 2 w' w.heap.size p.A p.n p.xs ∧ p.xs = f0 ∧ w.Since w.heap.size w'
set_option maxHeartbeats 8000000 in
set_option maxRecDepth 100000 in
theorem specHeard_any (A : Option Addr) (n c : Nat) (x : Nat → TrackR) (w : World) (h : Rs TrackR.cells 5 w w.heap.size A n x) (hn : n ≤ 8) :
    Calls Try.prog 75 #[.slice A n c] w (PJ (heardL x n) w) := by
  have HA := Lib.hid h
  clear h
  go_enter Try.func75, Try.ntmps75
  go_wp2
  go_loopw [3, 9] (fun sv i wr => ∃ k : Nat, k ≤ n ∧ i = .int .i64 (k : Nat) ∧ sv = .bool (soloB x k) ∧ w = wr) (fun _ i _ => n - (intOf i).toNat)
  case atStart => exact ⟨0, Nat.zero_le _, rfl, rfl, rfl⟩
  case round =>
    obtain ⟨k, hk, rfl, rfl, rfl⟩ := hrel
    by_cases hlt : k < n
    · obtain ⟨g, off, rfl, hg, hc⟩ := HA.out.at_ hlt
      have hc4 := hc 4 (by decide)
      simp only [TrackR.cells, List.getD_cons_zero, List.getD_cons_succ] at hc4
      clear hc
      have hs1 : soloB x (k + 1) = (soloB x k || (x k).o) := rfl
      have HS1 := Lib.hid hs1; clear hs1
      generalize soloB x k = s at *
      cases s
      · go_wp2
        go_roundw
        case rel => exact ⟨k + 1, by omega, by go_num, by rw [HS1.out]; simp, trivial⟩
        case measure => simp [intOf]; omega
      · go_wp2
        go_roundw
        case rel => exact ⟨k + 1, by omega, by go_num, by rw [HS1.out]; simp, trivial⟩
        case measure => simp [intOf]; omega
    · obtain rfl : k = n := by omega
      have HH : Hid (heardL x k = listL (fun j => hearB (soloB x k) (x j)) k) := Lib.hid rfl
      generalize soloB x k = s at *
      go_wp2
      go_loopw [5, 24] (fun v i wr => ∃ j : Nat, j ≤ k ∧ i = .int .i64 (j : Nat) ∧ RwI w.heap.size wr v (listL (fun j => hearB s (x j)) j) ∧ w.Since w.heap.size wr) (fun _ i _ => k - (intOf i).toNat)
      case atStart => exact ⟨0, Nat.zero_le _, rfl, RwI.start w _ (Nat.le_refl _), (World.Since.refl _ _).alloc (Nat.le_refl _) _⟩
      case round =>
        obtain ⟨j, hj, rfl, hr, hs⟩ := hrel
        have HR := Lib.hid hr; have HS := Lib.hid hs
        clear hr hs
        by_cases hlt : j < k
        · obtain ⟨g, off, rfl, hg, hc⟩ := HA.out.at_ hlt
          have hc3 := (HS.out.cell (a := ⟨g, off + j * 5 + 3, none⟩) hg).trans (hc 3 (by decide))
          have hc4 := (HS.out.cell (a := ⟨g, off + j * 5 + 4, none⟩) hg).trans (hc 4 (by decide))
          simp only [TrackR.cells, List.getD_cons_zero, List.getD_cons_succ] at hc3 hc4
          clear hc
          have hz := HS.out.size
          have HL : Hid (listL (fun j => hearB s (x j)) (j + 1) = if hearB s (x j) then listL (fun j => hearB s (x j)) j ++ [(j : Int)] else listL (fun j => hearB s (x j)) j) := Lib.hid rfl
          have HLE : Hid ((listL (fun j => hearB s (x j)) j).length < 1048576) := Lib.hid (by have := listL_len (fun j => hearB s (x j)) j; omega)
          obtain ⟨L, hLL⟩ : ∃ L, listL (fun j => hearB s (x j)) j = L := ⟨_, rfl⟩
          rw [hLL] at HR HL HLE
          clear hLL
          cases hb : hearB s (x j)
          · rw [hb] at HL
            simp only [hearB] at hb
            generalize (x j).m = m at *
            generalize (x j).o = o at *
            have HL2 := Lib.hid (HL.out.trans (if_neg (by decide)))
            clear HL
            cases m <;> cases o <;> cases s <;> (first | (exfalso; revert hb; decide) | skip)
            all_goals
              go_wp2
              go_roundw
              case rel => exact ⟨j + 1, by omega, by go_num, by rw [HL2.out]; exact HR.out, HS.out⟩
              case measure => simp [intOf]; omega
          · rw [hb] at HL
            simp only [hearB] at hb
            generalize (x j).m = m at *
            generalize (x j).o = o at *
            have HL2 := Lib.hid (HL.out.trans (if_pos rfl))
            clear HL
            cases m <;> cases o <;> cases s <;> (first | (exfalso; revert hb; decide) | skip)
            all_goals
              go_wp2_with (first | (at_builtin; go_loud (refine wpList_app1I rfl (.tmp 44) (.tmp 46) rfl w.heap.size _ L rfl _ (j : Int) rfl (by simp [go_sem]) HLE.out (by simp; omega) (HR.out.alloc _) ?_); intro v' w4 hR4 hS4))
              go_roundw
              case rel => exact ⟨j + 1, by omega, by go_num, by rw [HL2.out]; exact hR4.out, HS.out.trans (((World.Since.refl _ _).alloc hz _).trans hS4.out)⟩
              case measure => simp [intOf]; omega
        · obtain rfl : j = k := by omega
          obtain ⟨p, cp, rfl, hpn, hg, ha⟩ := HR.out.done
          have HPN := Lib.hid hpn; have HG := Lib.hid hg; have HAA := Lib.hid ha; clear hg ha hpn
          go_wp2
          go_ret
          exact ⟨p, cp, rfl, by rw [HH.out]; exact HPN.out, HG.out, by rw [HH.out]; exact HAA.out, HS.out⟩
end Go.Proofs.Ytpcbniaagckjoaa

/- Tracks that are heard: of the program. -/
set_option linter.unusedVariables false
set_option linter.unusedSimpArgs false
namespace Go.Proofs.Ytpcbniaagckjoaa
open Fl Go.RowKit
/-- an array of eight truths -/
def bg8 (b : Nat → Bool) : Array Value := #[.bool (b 0), .bool (b 1), .bool (b 2), .bool (b 3), .bool (b 4), .bool (b 5), .bool (b 6), .bool (b 7)]
def bv (b : Nat → Bool) (j : Nat) : Value := .bool (b j)
theorem bg8_at (b : Nat → Bool) (j : Nat) (h : j < 8) : (bg8 b)[j]? = some (bv b j) := by
  obtain rfl | rfl | rfl | rfl | rfl | rfl | rfl | rfl : j = 0 ∨ j = 1 ∨ j = 2 ∨ j = 3 ∨ j = 4 ∨ j = 5 ∨ j = 6 ∨ j = 7 := by omega
  all_goals rfl
theorem bg8_gf (w : World) (b : Nat → Bool) : GF (w.alloc (.cells (bg8 b) 114)) w.heap.size 114 8 (bv b) := ⟨_, Go.Deep.blk_alloc_new _ _, fun j hj => bg8_at b j hj⟩
theorem index8 (b : Nat → Bool) (j : Nat) (h : j < 8) (W : World) : (Instr.index 114 (.agg (bg8 b)) (.int .i64 (j : Nat))).run Try.prog W = .ok (.bool (b j)) W := by
  obtain rfl | rfl | rfl | rfl | rfl | rfl | rfl | rfl : j = 0 ∨ j = 1 ∨ j = 2 ∨ j = 3 ∨ j = 4 ∨ j = 5 ∨ j = 6 ∨ j = 7 := by omega
  all_goals simp [Instr.index, go_sem, bg8]
set_option maxHeartbeats 4000000 in
set_option maxRecDepth 100000 in
theorem implList_any (b : Nat → Bool) (w : World) :
    Calls Try.prog 77 #[.agg (bg8 b)] w (PJ (listL b 8) w) := by
  have HB : Hid (∀ j, j < 8 → ∀ W, (Instr.index 114 (.agg (bg8 b)) (.int .i64 (j : Nat))).run Try.prog W = .ok (.bool (b j)) W) := Lib.hid (index8 b)
  have HST : Hid (RwI w.heap.size ((w.alloc (.cells (bg8 b) 114)).alloc (.cells #[] 2)) (.slice (some ⟨w.heap.size + 1, 0, none⟩) 0 0) []) := Lib.hid (by have := RwI.start (w.alloc (.cells (bg8 b) 114)) w.heap.size (by simp); simpa using this)
  unfold bg8 at *
  go_enter Try.func77, Try.ntmps77
  go_wp2
  go_loopw [3, 8] (fun v i wr => ∃ j : Nat, j ≤ 8 ∧ i = .int .i64 (j : Nat) ∧ RwI w.heap.size wr v (listL b j) ∧ w.Since w.heap.size wr) (fun _ i _ => 8 - (intOf i).toNat)
  case atStart => exact ⟨0, Nat.zero_le _, rfl, HST.out, (by (repeat (first | (with_reducible refine Fl.sinDrew ?_) | (with_reducible refine World.Since.drew ?_) | (with_reducible refine Fl.sinSet ?_ ?_; rotate_left) | (with_reducible refine Fl.sinAlloc ?_ ?_; rotate_left) | with_reducible exact World.Since.refl _ _ | with_reducible assumption | (with_reducible refine Fl.sinStep (by with_reducible assumption) ?_))); all_goals (first | omega | (simp; done) | (simp; omega) | (simp [go_sem]; done) | (simp [go_sem]; omega)))⟩
  case round =>
    obtain ⟨j, hj, rfl, hr, hs⟩ := hrel
    have HR := Lib.hid hr; have HS := Lib.hid hs
    clear hr hs
    by_cases hlt : j < 8
    · have hz := HS.out.size
      have hat := HB.out j hlt wr
      have HL : Hid (listL b (j + 1) = if b j then listL b j ++ [(j : Int)] else listL b j) := Lib.hid rfl
      have HLE : Hid ((listL b j).length < 1048576) := Lib.hid (by have := listL_len b j; omega)
      obtain ⟨L, hLL⟩ : ∃ L, listL b j = L := ⟨_, rfl⟩
      rw [hLL] at HR HL HLE
      clear hLL
      cases hb : b j
      · rw [hb] at HL hat
        have HL2 := Lib.hid (HL.out.trans (if_neg (by decide)))
        clear HL hb
        go_wp2
        go_roundw
        case rel => exact ⟨j + 1, by omega, by go_num, by rw [HL2.out]; exact HR.out, HS.out⟩
        case measure => simp [intOf]; omega
      · rw [hb] at HL hat
        have HL2 := Lib.hid (HL.out.trans (if_pos rfl))
        clear HL hb
        go_wp2_with (first | (at_builtin; go_loud (refine wpList_app1I rfl (.tmp 13) (.tmp 15) rfl w.heap.size _ L rfl _ (j : Int) rfl (by simp [go_sem]) HLE.out (by simp; omega) (HR.out.alloc _) ?_); intro v' w4 hR4 hS4))
        go_roundw
        case rel => exact ⟨j + 1, by omega, by go_num, by rw [HL2.out]; exact hR4.out, HS.out.trans (((World.Since.refl _ _).alloc hz _).trans hS4.out)⟩
        case measure => simp [intOf]; omega
    · obtain rfl : j = 8 := by omega
      obtain ⟨p, cp, rfl, hpn, hg, ha⟩ := HR.out.done
      have HPN := Lib.hid hpn; have HG := Lib.hid hg; have HAA := Lib.hid ha; clear hg ha hpn
      rw [show ((8 : Nat) : Int) = 8 from rfl]
      go_wp2
      go_ret
      exact ⟨p, cp, rfl, HPN.out, HG.out, HAA.out, HS.out⟩
end Go.Proofs.Ytpcbniaagckjoaa

/- Tracks that are heard: of the program, the set. -/
set_option linter.unusedVariables false
set_option linter.unusedSimpArgs false
namespace Go.Proofs.Ytpcbniaagckjoaa
open Fl Go.RowKit
theorem Fl.GF.since' {w w' : World} {g m : Nat} {T : TypeId} {f : Nat → Value} (h : GF w g T m f) (s : w.Since w.heap.size w') : GF w' g T m f := h.of (s.block _ h.lt)
/-- the first k of a list of truths, and false -/
def upTo (k : Nat) (b : Nat → Bool) (j : Nat) : Bool := if j < k then b j else false
theorem upTo_step (k : Nat) (b : Nat → Bool) (j : Nat) : (if j = k then Value.bool (b k) else bv (upTo k b) j) = bv (upTo (k + 1) b) j := by
  unfold bv upTo
  by_cases e : j = k
  · subst e; rw [if_pos rfl, if_pos (Nat.lt_succ_self _)]
  · rw [if_neg e]
    by_cases h : j < k
    · rw [if_pos h, if_pos (by omega)]
    · rw [if_neg h, if_neg (by omega)]
def orL (b : Nat → Bool) : Nat → Bool
  | 0 => false
  | k + 1 => orL b k || b k
theorem orL_more (b : Nat → Bool) (n : Nat) (h : ∀ k, n ≤ k → b k = false) : ∀ d, orL b (n + d) = orL b n
  | 0 => rfl
  | d + 1 => by
    have e : orL b (n + d + 1) = (orL b (n + d) || b (n + d)) := rfl
    rw [← Nat.add_assoc, e, h (n + d) (by omega), Bool.or_false]
    exact orL_more b n h d
theorem orL_congr {a b : Nat → Bool} : ∀ n, (∀ k, k < n → a k = b k) → orL a n = orL b n
  | 0, _ => rfl
  | n + 1, h => by
    unfold orL
    rw [h n (by omega), orL_congr n fun k hk => h k (by omega)]
theorem soloB_or (x : Nat → TrackR) : ∀ n, soloB x n = orL (fun j => (x j).o) n
  | 0 => rfl
  | n + 1 => by unfold soloB orL; rw [soloB_or x n]
theorem orL_upTo (b : Nat → Bool) (n : Nat) (hn : n ≤ 8) : orL (upTo n b) 8 = orL b n := by
  have := orL_more (upTo n b) n (fun k hk => by unfold upTo; rw [if_neg (by omega)]) (8 - n)
  rw [show n + (8 - n) = 8 by omega] at this
  rw [this]
  exact orL_congr n fun k hk => by unfold upTo; rw [if_pos hk]
theorem listL_upTo (b : Nat → Bool) (n : Nat) (hn : n ≤ 8) : listL (upTo n b) 8 = listL b n := by
  have := listL_more (upTo n b) n (fun k hk => by unfold upTo; rw [if_neg (by omega)]) (8 - n)
  rw [show n + (8 - n) = 8 by omega] at this
  rw [this]
  exact listL_congr n fun k hk => by unfold upTo; rw [if_pos hk]
theorem heard_none (x : Nat → TrackR) (n : Nat) (hn : n ≤ 8) (h : orL (upTo n fun j => (x j).o) 8 = false) : listL (upTo n fun j => !(x j).m) 8 = heardL x n := by
  rw [orL_upTo _ n hn, ← soloB_or] at h
  rw [listL_upTo _ n hn]
  unfold heardL
  rw [h]
  exact listL_congr n fun k hk => by unfold hearB; cases (x k).m <;> cases (x k).o <;> rfl
theorem heard_some (x : Nat → TrackR) (n : Nat) (hn : n ≤ 8) (h : orL (upTo n fun j => (x j).o) 8 = true) : listL (fun j => upTo n (fun j => !(x j).m) j && upTo n (fun j => (x j).o) j) 8 = heardL x n := by
  rw [orL_upTo _ n hn, ← soloB_or] at h
  have e : (fun j => upTo n (fun j => !(x j).m) j && upTo n (fun j => (x j).o) j) = upTo n fun j => !(x j).m && (x j).o := by
    funext j
    unfold upTo
    by_cases hj : j < n
    · rw [if_pos hj, if_pos hj, if_pos hj]
    · rw [if_neg hj, if_neg hj, if_neg hj]; rfl
  rw [e, listL_upTo _ n hn]
  unfold heardL
  rw [h]
  exact listL_congr n fun k hk => by unfold hearB; cases (x k).m <;> cases (x k).o <;> rfl
set_option maxHeartbeats 4000000 in
set_option maxRecDepth 100000 in
theorem eq8 (b0 b1 b2 b3 b4 b5 b6 b7 : Bool) (W : World) : (Op.equalIn 10000 114 (.agg #[.bool b0, .bool b1, .bool b2, .bool b3, .bool b4, .bool b5, .bool b6, .bool b7]) (.agg #[.bool false, .bool false, .bool false, .bool false, .bool false, .bool false, .bool false, .bool false])).run Try.prog W = .ok (!(false || b0 || b1 || b2 || b3 || b4 || b5 || b6 || b7)) W := by
  have u3 := Try.underlying4
  have a3 := Try.isAgg4
  have z3 := Try.sizeOf4
  rw [show (10000 : Nat) = 9999 + 1 from rfl, Op.equalIn]
  simp only [Sem.run_bind, run_underlying Try.underlying114, Result.andThen_ok]
  simp only [Std.Legacy.Range.forIn_eq_forIn_range', Std.Legacy.Range.size, Nat.sub_zero, Nat.add_sub_cancel, Nat.div_one, List.range'_succ, List.range'_zero, List.forIn_cons, List.forIn_nil]
  go_simp
  cases b0
  · cases b1
    · cases b2
      · cases b3
        · cases b4
          · cases b5
            · cases b6
              · cases b7 <;> simp
              · simp
            · simp
          · simp
        · simp
      · simp
    · simp
  · simp
/-- the first i of one list of truths, the rest of another -/
def mixB (i : Nat) (a b : Nat → Bool) (j : Nat) : Bool := if j < i then a j else b j
set_option maxHeartbeats 4000000 in
set_option maxRecDepth 100000 in
theorem heardOf_any (A : Option Addr) (n c : Nat) (x : Nat → TrackR) (w : World) (h : Rs TrackR.cells 5 w w.heap.size A n x) (hn : n ≤ 8) :
    Calls Try.prog 76 #[.slice A n c] w fun e w' => ∃ b, e = .returned (.agg (bg8 b)) ∧ listL b 8 = heardL x n ∧ w.Since w.heap.size w' := by
  have HA := Lib.hid h
  clear h
  have G0 : Hid (GF (((w.alloc (.cells (bg8 fun _ => false) 114)).alloc (.cells (bg8 fun _ => false) 114)).alloc (.cells (bg8 fun _ => false) 114)) w.heap.size 114 8 (bv fun _ => false)) := Lib.hid (((bg8_gf w fun _ => false).since' (((World.Since.refl _ _).alloc (Nat.le_refl _) _).alloc (by simp) _)))
  have G1 : Hid (GF (((w.alloc (.cells (bg8 fun _ => false) 114)).alloc (.cells (bg8 fun _ => false) 114)).alloc (.cells (bg8 fun _ => false) 114)) (w.heap.size + 1) 114 8 (bv (upTo 0 fun j => (x j).o))) := Lib.hid (by have := (bg8_gf (w.alloc (.cells (bg8 fun _ => false) 114)) (fun _ => false)).since' ((World.Since.refl _ _).alloc (Nat.le_refl _) (.cells (bg8 fun _ => false) 114)); exact (by simpa using this : GF _ _ _ _ (bv fun _ => false)).congr fun j hj => rfl)
  have G2 : Hid (GF (((w.alloc (.cells (bg8 fun _ => false) 114)).alloc (.cells (bg8 fun _ => false) 114)).alloc (.cells (bg8 fun _ => false) 114)) (w.heap.size + 1 + 1) 114 8 (bv (upTo 0 fun j => !(x j).m))) := Lib.hid (by have := bg8_gf ((w.alloc (.cells (bg8 fun _ => false) 114)).alloc (.cells (bg8 fun _ => false) 114)) (fun _ => false); exact (by simpa using this : GF _ _ _ _ (bv fun _ => false)).congr fun j hj => rfl)
  unfold bg8 at G0 G1 G2
  go_enter Try.func76, Try.ntmps76
  go_wp2
  go_loopw [10] (fun iv wr => ∃ (k : Nat), k ≤ n ∧ iv = .int .i64 (k : Nat) ∧ GF wr w.heap.size 114 8 (bv fun _ => false) ∧ GF wr (w.heap.size + 1) 114 8 (bv (upTo k fun j => (x j).o)) ∧ GF wr (w.heap.size + 1 + 1) 114 8 (bv (upTo k fun j => !(x j).m)) ∧ w.Since w.heap.size wr) (fun iv _ => n - (intOf iv).toNat)
  case atStart => exact ⟨0, Nat.zero_le _, rfl, G0.out, G1.out, G2.out, by (repeat (first | (with_reducible refine Fl.sinDrew ?_) | (with_reducible refine World.Since.drew ?_) | (with_reducible refine Fl.sinSet ?_ ?_; rotate_left) | (with_reducible refine Fl.sinAlloc ?_ ?_; rotate_left) | with_reducible exact World.Since.refl _ _ | with_reducible assumption | (with_reducible refine Fl.sinStep (by with_reducible assumption) ?_))); all_goals (first | omega | (simp; done) | (simp; omega) | (simp [go_sem]; done) | (simp [go_sem]; omega))⟩
  case round =>
    obtain ⟨k, hk, rfl, h0, h1, h2, hs⟩ := hrel
    have K0 := Lib.hid h0; have K1 := Lib.hid h1; have K2 := Lib.hid h2; have HS := Lib.hid hs
    clear h0 h1 h2 hs G0 G1 G2
    have hz := HS.out.size
    have hz2 := K2.out.lt
    by_cases hlt : k < n
    · obtain ⟨g, off, rfl, hg, hc⟩ := HA.out.at_ hlt
      have c0 := (HS.out.cell (a := ⟨g, off + k * 5 + 0, none⟩) hg).trans (hc 0 (by decide))
      have c1 := (HS.out.cell (a := ⟨g, off + k * 5 + 1, none⟩) hg).trans (hc 1 (by decide))
      have c2 := (HS.out.cell (a := ⟨g, off + k * 5 + 2, none⟩) hg).trans (hc 2 (by decide))
      have c3 := (HS.out.cell (a := ⟨g, off + k * 5 + 3, none⟩) hg).trans (hc 3 (by decide))
      have c4 := (HS.out.cell (a := ⟨g, off + k * 5 + 4, none⟩) hg).trans (hc 4 (by decide))
      simp only [TrackR.cells, List.getD_cons_zero, List.getD_cons_succ, Nat.add_zero] at c0 c1 c2 c3 c4
      clear hc
      go_wp2_with fail
      generalize hW : World.alloc wr _ = V
      have hzV : Hid (V.heap.size = wr.heap.size + 1) := Lib.hid (by rw [← hW]; simp)
      have SV : Hid (wr.Since wr.heap.size V) := Lib.hid (by rw [← hW]; exact (World.Since.refl _ _).alloc (Nat.le_refl _) _)
      have hBk : V.heap[wr.heap.size]? = some (.cells #[Value.slice (x k).sA (x k).sn (x k).sc, Value.int IntKind.i64 (x k).t, Value.float FloatKind.f32 (x k).p, Value.bool (x k).m, Value.bool (x k).o] 106) := by rw [← hW]; exact Go.Deep.blk_alloc_new wr _
      have y3 : V.cell? ⟨wr.heap.size, 3, none⟩ = some (.bool (x k).m) := by simp [World.cell?, hBk]
      have y4 : V.cell? ⟨wr.heap.size, 4, none⟩ = some (.bool (x k).o) := by simp [World.cell?, hBk]
      have J0 := Lib.hid (K0.out.since' SV.out); have J1 := Lib.hid (K1.out.since' SV.out); have J2 := Lib.hid (K2.out.since' SV.out)
      have b1 := J1.out.cell (j := k) (by omega)
      have d1 := J1.out.free k
      have b2 := J2.out.cell (j := k) (by omega)
      have d2 := J2.out.free k
      generalize bv (upTo k fun j => (x j).o) k = u1 at b1
      generalize bv (upTo k fun j => !(x j).m) k = u2 at b2
      have I2 : GF (V.setCell ⟨w.heap.size + 1, k, none⟩ (.bool (x k).o)) (w.heap.size + 1 + 1) _ _ _ := J2.out.of (Go.Deep.blk_setCell_other _ _ _ _ (by show w.heap.size + 1 + 1 ≠ w.heap.size + 1; omega))
      have e3 : (V.setCell ⟨w.heap.size + 1, k, none⟩ (.bool (x k).o)).cell? ⟨wr.heap.size, 3, none⟩ = some (.bool (x k).m) := by
        have : (V.setCell ⟨w.heap.size + 1, k, none⟩ (.bool (x k).o)).heap[wr.heap.size]? = V.heap[wr.heap.size]? := Go.Deep.blk_setCell_other _ _ _ _ (by show wr.heap.size ≠ w.heap.size + 1; omega)
        simp [World.cell?, this, hBk]
      have e2 := I2.cell (j := k) (by omega)
      have f2 := I2.free k
      generalize bv (upTo k fun j => !(x j).m) k = u3 at e2
      have L1 := Lib.hid I2
      clear hW hBk I2 c0 c1 c2 c3 c4
      go_region
      all_goals
        go_wp2
        go_roundw
        case rel =>
          refine ⟨k + 1, by omega, by go_num, ?_, ?_, ?_, since_drewN (((since_step HS.out SV.out).setCell (a := ⟨w.heap.size + 1, k, none⟩) (by show w.heap.size ≤ w.heap.size + 1; omega) (.bool (x k).o)).setCell (a := ⟨w.heap.size + 1 + 1, k, none⟩) (by show w.heap.size ≤ w.heap.size + 1 + 1; omega) (.bool (!(x k).m))) 1⟩
          · exact (J0.out.of (w' := V.setCell ⟨w.heap.size + 1, k, none⟩ (.bool (x k).o)) (Go.Deep.blk_setCell_other _ _ _ _ (by show w.heap.size ≠ w.heap.size + 1; omega))).of (Go.Deep.blk_setCell_other _ _ _ _ (by show w.heap.size ≠ w.heap.size + 1 + 1; omega))
          · exact ((J1.out.set k (.bool (x k).o)).of (Go.Deep.blk_setCell_other _ _ _ _ (by show w.heap.size + 1 ≠ w.heap.size + 1 + 1; omega))).congr fun j hj => upTo_step k (fun j => (x j).o) j
          · exact (L1.out.set k (.bool (!(x k).m))).congr fun j hj => upTo_step k (fun j => !(x j).m) j
        case measure => simp [intOf]; omega
    · obtain rfl : k = n := by omega
      have p0 := K1.out.cell (j := 0) (by decide); have p1 := K1.out.cell (j := 1) (by decide); have p2 := K1.out.cell (j := 2) (by decide); have p3 := K1.out.cell (j := 3) (by decide); have p4 := K1.out.cell (j := 4) (by decide); have p5 := K1.out.cell (j := 5) (by decide); have p6 := K1.out.cell (j := 6) (by decide); have p7 := K1.out.cell (j := 7) (by decide)
      have q0 := K2.out.cell (j := 0) (by decide); have q1 := K2.out.cell (j := 1) (by decide); have q2 := K2.out.cell (j := 2) (by decide); have q3 := K2.out.cell (j := 3) (by decide); have q4 := K2.out.cell (j := 4) (by decide); have q5 := K2.out.cell (j := 5) (by decide); have q6 := K2.out.cell (j := 6) (by decide); have q7 := K2.out.cell (j := 7) (by decide)
      unfold bv at p0 p1 p2 p3 p4 p5 p6 p7 q0 q1 q2 q3 q4 q5 q6 q7
      have HN : Hid (orL (upTo k fun j => (x j).o) 8 = false → listL (upTo k fun j => !(x j).m) 8 = heardL x k) := Lib.hid (heard_none x k hn)
      have HY : Hid (orL (upTo k fun j => (x j).o) 8 = true → listL (fun j => upTo k (fun j => !(x j).m) j && upTo k (fun j => (x j).o) j) 8 = heardL x k) := Lib.hid (heard_some x k hn)
      generalize (upTo k fun j => (x j).o) = sb at *
      generalize (upTo k fun j => !(x j).m) = mb at *
      have hE := fun W => eq8 (sb 0) (sb 1) (sb 2) (sb 3) (sb 4) (sb 5) (sb 6) (sb 7) W
      have hO : (false || sb 0 || sb 1 || sb 2 || sb 3 || sb 4 || sb 5 || sb 6 || sb 7) = orL sb 8 := rfl
      have d0 : ∀ j, j < 8 → wr.cell? ⟨w.heap.size, j, none⟩ = some (.bool false) := fun j hj => K0.out.cell hj
      have g0 := d0 0 (by decide); have g1 := d0 1 (by decide); have g2 := d0 2 (by decide); have g3 := d0 3 (by decide); have g4 := d0 4 (by decide); have g5 := d0 5 (by decide); have g6 := d0 6 (by decide); have g7 := d0 7 (by decide)
      have z0 := K0.out.free 0; have z1 := K0.out.free 1; have z2 := K0.out.free 2; have z3 := K0.out.free 3; have z4 := K0.out.free 4; have z5 := K0.out.free 5; have z6 := K0.out.free 6; have z7 := K0.out.free 7
      clear d0
      rw [hO] at hE
      clear hO
      cases hs : orL sb 8
      · rw [hs] at hE
        have HR := Lib.hid (HN.out hs)
        clear HN HY hs
        go_wp2
        exact bodyPost_ret (v := .agg (bg8 mb)) (by simp [results, Try.results76, go_sem, bg8, g0, g1, g2, g3, g4, g5, g6, g7, z0, z1, z2, z3, z4, z5, z6, z7]) rfl ⟨mb, rfl, HR.out, by have hs0 := HS.out; have hz0 := hs0.size; (repeat (first | (with_reducible refine Fl.sinDrew ?_) | (with_reducible refine World.Since.drew ?_) | (with_reducible refine Fl.sinSet ?_ ?_; rotate_left) | (with_reducible refine Fl.sinAlloc ?_ ?_; rotate_left) | with_reducible exact World.Since.refl _ _ | with_reducible assumption | (with_reducible refine Fl.sinStep (by with_reducible assumption) ?_))); all_goals (first | omega | (simp; done) | (simp; omega) | (simp [go_sem]; done) | (simp [go_sem]; omega))⟩
      · rw [hs] at hE
        have HR := Lib.hid (HY.out hs)
        clear HN HY hs q0 q1 q2 q3 q4 q5 q6 q7
        go_wp2
        go_loopw [29] (fun iv W => ∃ (i : Nat), i ≤ 8 ∧ iv = .int .i64 (i : Nat) ∧ GF W w.heap.size 114 8 (bv fun _ => false) ∧ GF W (w.heap.size + 1) 114 8 (bv sb) ∧ GF W (w.heap.size + 1 + 1) 114 8 (bv (mixB i (fun j => mb j && sb j) mb)) ∧ w.Since w.heap.size W) (fun iv _ => 8 - (intOf iv).toNat)
        case atStart => exact ⟨0, by omega, rfl, K0.out, K1.out, K2.out.congr fun j hj => by unfold bv mixB; rw [if_neg (by omega)], HS.out⟩
        case round =>
          obtain ⟨i, hi, rfl, h0, h1, h2, hs⟩ := hrel
          have M0 := Lib.hid h0; have M1 := Lib.hid h1; have M2 := Lib.hid h2; have HT := Lib.hid hs
          clear h0 h1 h2 hs g0 g1 g2 g3 g4 g5 g6 g7 z0 z1 z2 z3 z4 z5 z6 z7 p0 p1 p2 p3 p4 p5 p6 p7 hE
          by_cases hl8 : i < 8
          · have e1 := M1.out.cell hl8
            have e2 := M2.out.cell hl8
            have d2 := M2.out.free i
            unfold bv at e1 e2
            have hm : mixB i (fun j => mb j && sb j) mb i = mb i := by unfold mixB; rw [if_neg (by omega)]
            rw [hm] at e2
            have NX : Hid (∀ v : Bool, v = (mb i && sb i) → ∀ j, (if j = i then Value.bool v else bv (mixB i (fun j => mb j && sb j) mb) j) = bv (mixB (i + 1) (fun j => mb j && sb j) mb) j) := Lib.hid (fun v hv j => by
              unfold bv mixB
              by_cases e : j = i
              · subst e; rw [if_pos rfl, if_pos (Nat.lt_succ_self _), hv]
              · rw [if_neg e]
                by_cases h : j < i
                · rw [if_pos h, if_pos (by omega)]
                · rw [if_neg h, if_neg (by omega)])
            clear hm
            generalize hmi : mb i = mi at *
            generalize hsi : sb i = si at *
            cases mi <;> cases si
            all_goals
              go_wp2
              go_roundw
              case rel =>
                refine ⟨i + 1, by omega, by go_num, ?_, ?_, ?_, HT.out.setCell (a := ⟨w.heap.size + 1 + 1, i, none⟩) (by show w.heap.size ≤ w.heap.size + 1 + 1; omega) _⟩
                · exact M0.out.of (Go.Deep.blk_setCell_other _ _ _ _ (by show w.heap.size ≠ w.heap.size + 1 + 1; omega))
                · exact M1.out.of (Go.Deep.blk_setCell_other _ _ _ _ (by show w.heap.size + 1 ≠ w.heap.size + 1 + 1; omega))
                · exact (M2.out.set i _).congr fun j hj => NX.out _ rfl j
              case measure => simp [intOf]; omega
          · obtain rfl : i = 8 := by omega
            have c0 : ∀ j, j < 8 → wr.cell? ⟨w.heap.size + 1 + 1, j, none⟩ = some (.bool (mb j && sb j)) := fun j hj => by
              have := M2.out.cell hj
              unfold bv mixB at this
              rw [if_pos hj] at this
              exact this
            have d0 : ∀ j, j < 8 → wr.cell? ⟨w.heap.size, j, none⟩ = some (.bool false) := fun j hj => M0.out.cell hj
            have e0 := c0 0 (by decide); have e1 := c0 1 (by decide); have e2 := c0 2 (by decide); have e3 := c0 3 (by decide); have e4 := c0 4 (by decide); have e5 := c0 5 (by decide); have e6 := c0 6 (by decide); have e7 := c0 7 (by decide)
            have g0 := d0 0 (by decide); have g1 := d0 1 (by decide); have g2 := d0 2 (by decide); have g3 := d0 3 (by decide); have g4 := d0 4 (by decide); have g5 := d0 5 (by decide); have g6 := d0 6 (by decide); have g7 := d0 7 (by decide)
            have z0 := M0.out.free 0; have z1 := M0.out.free 1; have z2 := M0.out.free 2; have z3 := M0.out.free 3; have z4 := M0.out.free 4; have z5 := M0.out.free 5; have z6 := M0.out.free 6; have z7 := M0.out.free 7
            clear c0 d0
            obtain ⟨f, hf⟩ : ∃ f : Nat → Bool, f = fun j => mb j && sb j := ⟨_, rfl⟩
            have f0 : (mb 0 && sb 0) = f 0 := by rw [hf]
            have f1 : (mb 1 && sb 1) = f 1 := by rw [hf]
            have f2 : (mb 2 && sb 2) = f 2 := by rw [hf]
            have f3 : (mb 3 && sb 3) = f 3 := by rw [hf]
            have f4 : (mb 4 && sb 4) = f 4 := by rw [hf]
            have f5 : (mb 5 && sb 5) = f 5 := by rw [hf]
            have f6 : (mb 6 && sb 6) = f 6 := by rw [hf]
            have f7 : (mb 7 && sb 7) = f 7 := by rw [hf]
            rw [f0] at e0; rw [f1] at e1; rw [f2] at e2; rw [f3] at e3; rw [f4] at e4; rw [f5] at e5; rw [f6] at e6; rw [f7] at e7
            rw [← hf] at HR
            clear f0 f1 f2 f3 f4 f5 f6 f7 hf
            rw [show ((8 : Nat) : Int) = 8 from rfl]
            go_wp2
            exact bodyPost_ret (v := .agg (bg8 f)) (by simp [results, Try.results76, go_sem, bg8, g0, g1, g2, g3, g4, g5, g6, g7, z0, z1, z2, z3, z4, z5, z6, z7]) rfl ⟨f, rfl, HR.out, by have hs0 := HT.out; have hz0 := hs0.size; (repeat (first | (with_reducible refine Fl.sinDrew ?_) | (with_reducible refine World.Since.drew ?_) | (with_reducible refine Fl.sinSet ?_ ?_; rotate_left) | (with_reducible refine Fl.sinAlloc ?_ ?_; rotate_left) | with_reducible exact World.Since.refl _ _ | with_reducible assumption | (with_reducible refine Fl.sinStep (by with_reducible assumption) ?_))); all_goals (first | omega | (simp; done) | (simp; omega) | (simp [go_sem]; done) | (simp [go_sem]; omega))⟩
end Go.Proofs.Ytpcbniaagckjoaa

/- The law of HeardTracks. -/
set_option linter.unusedVariables false
set_option linter.unusedSimpArgs false
namespace Go.Proofs.Ytpcbniaagckjoaa
open Fl Go.RowKit
def heardR (x : Nat → TrackR) (n : Nat) (r : Bool) : List Int := if r then heardL x n else []
theorem specHeardTracks_b (A : Option Addr) (n c : Nat) (x : Nat → TrackR) (r : Bool) (w : World) (h : Rs TrackR.cells 5 w w.heap.size A n x) (hn : n ≤ 1048576) (hr : r = true ↔ tracksOk x n) :
    Calls Try.prog 20 #[.slice A n c] w (PJB (heardR x n r).length (heardR x n r) r w) := by
  have HA := Lib.hid h; have HR := Lib.hid hr
  clear h hr
  cases r
  · unfold heardR
    go_enter Try.func20, Try.ntmps20
    go_wp2_with (go_at_call 71; refine (specTracks_b A n c x false _ _ HA.out (Nat.le_refl _) hn HR.out).mono ?_; rintro e w2 ⟨rfl, hs⟩)
    go_ret2
    exact PJB.none_ hs
  · have h8 : n ≤ 8 := (HR.out.1 rfl).2
    go_enter Try.func20, Try.ntmps20
    go_wp2_with (first | (go_at_call 71; refine (specTracks_b A n c x true _ _ HA.out (Nat.le_refl _) hn HR.out).mono ?_; rintro e w2 ⟨rfl, hs⟩; have HS := Lib.hid hs; clear hs) | (go_at_call 75; refine (specHeard_any A n c x _ (HA.out.now HS.out) h8).mono ?_; rintro e w3 ⟨p, cp, rfl, hpn, hg, ha, hs⟩; have HP := Lib.hid hpn; have HG := Lib.hid hg; have HAA := Lib.hid ha; have HT := Lib.hid hs; clear hpn hg ha hs))
    go_ret2
    exact ⟨p, cp, rfl, HP.out, HG.out.less HS.out.size, HAA.out, since_step HS.out HT.out⟩
theorem implHeardTracks_b (g off n c : Nat) (x : Nat → TrackR) (r : Bool) (w : World) (h : Rs TrackR.cells 5 w w.heap.size (some ⟨g, off, none⟩) n x) (hx : ∀ k, k < n → (x k).ok) (hn : n ≤ 1048576) (hr : r = true ↔ tracksOk x n) :
    Calls Try.prog 21 #[.slice (some ⟨g, off, none⟩) n c] w (PJB (heardR x n r).length (heardR x n r) r w) := by
  have HQ := Lib.hid (implAreTracks_b g off n c x r w h hx hn hr)
  have HA := Lib.hid h; have HR := Lib.hid hr
  clear h hr
  cases r
  · unfold heardR
    go_enter Try.func21, Try.ntmps21
    go_wp2_with (go_at_call 18; refine HQ.out.mono ?_; rintro e w2 ⟨rfl, hs⟩; have HS := Lib.hid hs; clear hs)
    go_ret2
    exact PJB.none_ HS.out
  · have h8 : n ≤ 8 := (HR.out.1 rfl).2
    go_enter Try.func21, Try.ntmps21
    go_wp2_with (first | (go_at_call 18; refine HQ.out.mono ?_; rintro e w2 ⟨rfl, hs⟩; have HS := Lib.hid hs; clear hs) | (go_at_call 76; refine (heardOf_any _ n c x _ (HA.out.now HS.out) h8).mono ?_; rintro e w3 ⟨b, rfl, hb, hs⟩; have HB := Lib.hid hb; have HT := Lib.hid hs; clear hb hs) | (go_at_call 77; refine (implList_any b _).mono ?_; rintro e w4 ⟨p, cp, rfl, hpn, hg, ha, hs⟩; have HP := Lib.hid hpn; have HG := Lib.hid hg; have HAA := Lib.hid ha; have HU := Lib.hid hs; clear hpn hg ha hs))
    go_ret2
    exact ⟨p, cp, rfl, by rw [HP.out, HB.out]; rfl, HG.out.less (Nat.le_trans HS.out.size HT.out.size), by rw [HAA.out, HB.out]; rfl, since_step (since_step HS.out HT.out) HU.out⟩
theorem heardR_like {e x : Nat → TrackR} {n : Nat} (r : Bool) (h : ∀ k, k < n → (e k).like (x k)) : heardR e n r = heardR x n r := by
  unfold heardR
  rw [heardL_like h]
theorem heardR_len (x : Nat → TrackR) (n : Nat) (r : Bool) : (heardR x n r).length ≤ n := by
  unfold heardR
  cases r
  · exact Nat.zero_le _
  · exact listL_len _ n
open Classical in
theorem lawHeardTracks_any (A0 : Option Addr) (n0 c0 : Nat) (x0 : Nat → TrackR) (w : World)
    (h0 : Rs TrackR.cells 5 w w.heap.size A0 n0 x0) (hk0 : ∀ k, k < n0 → (x0 k).wf w) (hb0 : n0 ≤ 9223372036854775807) :
    Calls Try.prog 4 #[.slice A0 n0 c0] w fun e w' => e = .returned (.bool true) ∧ w.Since w.heap.size w' := by
  by_cases h : (n0 : Int) + TrackR.tot x0 n0 ≤ 1048576
  · obtain ⟨h1, h2, h3⟩ := tracks_fit x0 n0 h
    have hr : (decide (tracksOk x0 n0)) = true ↔ tracksOk x0 n0 := decide_eq_true_iff
    exact lawHeardTracks_gen A0 n0 c0 x0 _ _ _ w ⟨h0, fun k hk => (hk0 k hk).2.1⟩ h3 (Nat.le_trans (heardR_len x0 n0 _) h3) (fun k hk => (hk0 k hk).1) h1 h2 h
      (fun v b e ht hl => by have := specHeardTracks_b (some ⟨b, 0, none⟩) n0 n0 e _ v ht.1 h3 (hr.trans (tracksOk_like hl).symm); rw [heardR_like _ hl] at this; exact this)
      (fun v b e ht hl => by have := implHeardTracks_b b 0 n0 n0 e _ v ht.1 (fun k hk => TrackR.like_ok (hl k hk) (hk0 k hk).1) h3 (hr.trans (tracksOk_like hl).symm); rw [heardR_like _ hl] at this; exact this)
  · exact lawHeardTracks_big A0 n0 c0 x0 w h0 (fun k hk => (hk0 k hk).2.2.1) hb0 h
end Go.Proofs.Ytpcbniaagckjoaa

