/- Joined: Hc Hd He Hf Hg Hh S1 F4 Gb Gc Gd Ge Gn F1 F2 Gp Gq Gu Hn Ho F3 Ha Hb Ta Gv Gw Gs F5 -/
import Derived.Test.YtbhigpfpnbdilaaIl
import Derived.Test.YtbhigpfpnbdilaaDl
import Derived.BigQuiet
import Derived.Test.YtbhigpfpnbdilaaEg
import Derived.Test.YtbhigpfpnbdilaaSc
import Derived.Test.YtbhigpfpnbdilaaJk
import Derived.Test.YtbhigpfpnbdilaaGa
import Derived.Outline
import Derived.Test.YtbhigpfpnbdilaaEc
import Derived.Test.YtbhigpfpnbdilaaFu
import Derived.Test.YtbhigpfpnbdilaaRz
import Derived.Deep.MidRow
import Derived.Test.YtbhigpfpnbdilaaJa
import Derived.Laws.AppendOwnNone
import Derived.Lib.SliceRun
import Derived.Deep.DeepCutAuto
/- Draws: bytes that can be read, and the source of draws. -/
set_option linter.unusedVariables false
set_option linter.unusedSimpArgs false
namespace Go.Proofs.Ytbhigpfpnbdilaa
open Fl Go.RowKit
theorem and255u (z : Int) : 0 ≤ wrap64 (bits BinOp.and IntKind.u64 z 255) ∧ wrap64 (bits BinOp.and IntKind.u64 z 255) < 256 := by
  have h : bits BinOp.and IntKind.u64 z 255 = z % 256 := by
    have hb : (BitVec.ofInt 64 255).toNat = 255 := by decide
    have ha : (BitVec.ofInt 64 z).toNat = (z % 18446744073709551616).toNat := by rw [BitVec.toNat_ofInt]; rfl
    have hw : ∀ n : Nat, n < 256 → IntKind.u64.wrap (n : Int) = n := fun n h => by rw [IntKind.wrap_u64]; omega
    show IntKind.u64.wrap (((BitVec.ofInt 64 z &&& BitVec.ofInt 64 255).toNat : Nat) : Int) = _
    rw [BitVec.toNat_and, ha, hb]
    have e : ∀ n : Nat, n &&& 255 = n % 256 := fun n => Nat.and_two_pow_sub_one_eq_mod n 8
    rw [e, hw _ (Nat.mod_lt _ (by decide))]
    omega
  rw [h]
  unfold wrap64
  omega
/-- bytes that can be read -/
def Bs (w : World) (B : Nat) (A : Option Addr) (n : Nat) (xs : List Int) : Prop :=
  xs.length = n ∧ (∀ k, 0 ≤ wi xs k ∧ wi xs k < 256) ∧ (0 < n → ∃ g off, A = some ⟨g, off, none⟩ ∧ g < B ∧ ∀ k, k < n → w.cell? ⟨g, off + k, none⟩ = some (.int .u8 (wi xs k)))
theorem Bs.keep {w w' : World} {B : Nat} {A : Option Addr} {n : Nat} {xs : List Int} (h : Bs w B A n xs) (hk : ∀ g o, g < B → w'.cell? ⟨g, o, none⟩ = w.cell? ⟨g, o, none⟩) : Bs w' B A n xs :=
  ⟨h.1, h.2.1, fun hn => by
    obtain ⟨g, off, e, hg, hc⟩ := h.2.2 hn
    exact ⟨g, off, e, hg, fun k hk' => (hk g _ hg).trans (hc k hk')⟩⟩
theorem Bs.more {w : World} {B B' : Nat} {A : Option Addr} {n : Nat} {xs : List Int} (h : Bs w B A n xs) (hB : B ≤ B') : Bs w B' A n xs :=
  ⟨h.1, h.2.1, fun hn => by
    obtain ⟨g, off, e, hg, hc⟩ := h.2.2 hn
    exact ⟨g, off, e, by omega, hc⟩⟩
theorem Bs.since {w w' : World} {B B' : Nat} {A : Option Addr} {n : Nat} {xs : List Int} (h : Bs w B A n xs) (hs : w.Since B' w') (hB : B ≤ B') : Bs w' B A n xs :=
  h.keep fun g o hg => hs.cell (a := ⟨g, o, none⟩) (by show g < B'; omega)
theorem Bs.drewN {w : World} {B : Nat} {A : Option Addr} {n : Nat} {xs : List Int} (h : Bs w B A n xs) (m : Nat) : Bs (w.drewN m) B A n xs := h.keep fun _ _ _ => rfl
/-- a source's block -/
def SrcB (w : World) (b : Nat) (A : Option Addr) (n c : Nat) (i sd : Int) : Prop := w.heap[b]? = some (.cells #[.slice A n c, .int .i64 i, .int .u64 sd] 45 (0, 0))
theorem SrcB.lt {w : World} {b n c : Nat} {A : Option Addr} {i sd : Int} (h : SrcB w b A n c i sd) : b < w.heap.size := (Array.getElem?_eq_some_iff.1 h).1
theorem SrcB.c0 {w : World} {b n c : Nat} {A : Option Addr} {i sd : Int} (h : SrcB w b A n c i sd) : w.cell? ⟨b, 0, none⟩ = some (.slice A n c) := by unfold SrcB at h; simp [World.cell?, h]
theorem SrcB.c1 {w : World} {b n c : Nat} {A : Option Addr} {i sd : Int} (h : SrcB w b A n c i sd) : w.cell? ⟨b, 1, none⟩ = some (.int .i64 i) := by unfold SrcB at h; simp [World.cell?, h]
theorem SrcB.c2 {w : World} {b n c : Nat} {A : Option Addr} {i sd : Int} (h : SrcB w b A n c i sd) : w.cell? ⟨b, 2, none⟩ = some (.int .u64 sd) := by unfold SrcB at h; simp [World.cell?, h]
theorem SrcB.free {w : World} {b n c q : Nat} {A : Option Addr} {i sd : Int} (h : SrcB w b A n c i sd) : w.frozen? ⟨b, q, none⟩ = false := by unfold SrcB at h; simp [World.frozen?, h]
theorem SrcB.of {w w' : World} {b n c : Nat} {A : Option Addr} {i sd : Int} (h : SrcB w b A n c i sd) (e : w'.heap[b]? = w.heap[b]?) : SrcB w' b A n c i sd := e.trans h
theorem SrcB.set1 {w : World} {b n c : Nat} {A : Option Addr} {i sd i' : Int} (h : SrcB w b A n c i sd) : SrcB (w.setCell ⟨b, 1, none⟩ (.int .i64 i')) b A n c i' sd := by
  unfold SrcB at h ⊢
  simp [World.setCell, Array.getElem?_modify, h]
theorem SrcB.set2 {w : World} {b n c : Nat} {A : Option Addr} {i sd sd' : Int} (h : SrcB w b A n c i sd) : SrcB (w.setCell ⟨b, 2, none⟩ (.int .u64 sd')) b A n c i sd' := by
  unfold SrcB at h ⊢
  simp [World.setCell, Array.getElem?_modify, h]
/-- a source in block b that has drawn at most K times, whose bytes lie in blocks before B -/
def Src (B b K : Nat) (w : World) : Prop := ∃ (A : Option Addr) (n c : Nat) (xs : List Int) (i sd : Int), SrcB w b A n c i sd ∧ Bs w B A n xs ∧ B ≤ b ∧ n ≤ 1048576 ∧ 0 ≤ i ∧ i ≤ (K : Int)
theorem Src.on {B b K : Nat} {w w' : World} (h : Src B b K w) (hs : w.Since (b + 1) w') : Src B b K w' := by
  obtain ⟨A, n, c, xs, i, sd, h1, h2, h3, h4, h5⟩ := h
  exact ⟨A, n, c, xs, i, sd, h1.of (hs.block b (by omega)), h2.since hs (by omega), h3, h4, h5⟩
theorem Src.up {B b K K' : Nat} {w : World} (h : Src B b K w) (hK : K ≤ K') : Src B b K' w := by
  obtain ⟨A, n, c, xs, i, sd, h1, h2, h3, h4, h5, h6⟩ := h
  exact ⟨A, n, c, xs, i, sd, h1, h2, h3, h4, h5, by omega⟩
theorem Src.lt {B b K : Nat} {w : World} (h : Src B b K w) : b < w.heap.size := by
  obtain ⟨A, n, c, xs, i, sd, h1, h2, h3, h4, h5, h6⟩ := h
  exact h1.lt
theorem Src.drewN {B b K : Nat} {w : World} (h : Src B b K w) (m : Nat) : Src B b K (w.drewN m) := h.on (since_drewN (World.Since.refl _ _) m)
theorem on_post {b lo : Nat} {w a c : World} (h : On b w a) (s : a.Since lo c) (hl : w.heap.size ≤ lo) (hb : b < w.heap.size) : On b w c :=
  ⟨h.1.trans (since_mono s (by omega)), fun x hx hn => (s.block x (by omega)).trans (h.2 x hx hn)⟩
theorem Src.low {B b K : Nat} {w : World} (h : Src B b K w) : B ≤ b := by
  obtain ⟨A, n, c, xs, i, sd, h1, h2, h3, h4, h5, h6⟩ := h
  exact h3
set_option maxHeartbeats 4000000 in
set_option maxRecDepth 100000 in
theorem next_any (B b K : Nat) (w : World) (h : Src B b K w) (hK : K ≤ 1000000000) :
    Calls Try.prog 12 #[.pointer (some ⟨b, 0, none⟩)] w fun e w' => ∃ v : Int, e = .returned (.int .i64 v) ∧ 0 ≤ v ∧ v < 256 ∧ Src B b (K + 1) w' ∧ On b w w' := by
  obtain ⟨A, n, c, xs, i, sd, h1, h2, h3, h4, h5, h6⟩ := h
  have H1 := Lib.hid h1; have H2 := Lib.hid h2
  have c0 := h1.c0; have c1 := h1.c1; have c2 := h1.c2
  have f1 := h1.free (q := 1); have f2 := h1.free (q := 2)
  clear h1 h2
  by_cases hi : i < (n : Int)
  · have hd : decide (i < (n : Int)) = true := decide_eq_true hi
    have hd2 : decide (i + 1 ≤ (n : Int)) = true := decide_eq_true (by omega)
    obtain ⟨j, rfl⟩ := Int.eq_ofNat_of_zero_le h5
    obtain ⟨g, off, rfl, hg, hc⟩ := H2.out.2.2 (by omega)
    have hcell := hc j (by omega)
    have hv := H2.out.2.1 j
    clear hc
    go_enter Try.func12, Try.ntmps12
    go_wp2_with fail
    go_quiet (fail)
    go_wp2_with fail
    go_quiet (fail)
    go_wp2_with fail
    generalize IntKind.wrap .u64 (IntKind.wrap .u64 (_ + _) + 1442695040888963407) = sd'
    generalize hW : World.setCell _ _ _ = W
    have B1 : Hid (SrcB W b (some ⟨g, off, none⟩) n c ((j : Int) + 1) sd') := Lib.hid (by rw [← hW]; exact H1.out.set1.set2)
    have O1 : Hid (On b w W) := Lib.hid (by rw [← hW]; exact ((On.refl _ _).set _ _).set _ _)
    have d0 := B1.out.c0; have d1 := B1.out.c1; have d2 := B1.out.c2
    clear hW
    go_quiet (fail)
    go_wp2
    go_ret
    exact ⟨_, rfl, hv.1, hv.2, ⟨_, n, c, xs, _, sd', B1.out, by first | exact (H2.out.since O1.out.1 h3).drewN _ | exact ((H2.out.since O1.out.1 h3).drewN _).drewN _, h3, h4, by omega, by omega⟩, by first | exact O1.out.drewN _ | exact (O1.out.drewN _).drewN _⟩
  · have hd : decide (i < (n : Int)) = false := decide_eq_false hi
    have hd2 : decide (i + 1 ≤ (n : Int)) = false := decide_eq_false (by omega)
    go_enter Try.func12, Try.ntmps12
    go_wp2_with fail
    go_quiet (fail)
    go_wp2_with fail
    generalize IntKind.wrap .u64 (IntKind.wrap .u64 _ + 1442695040888963407) = sd'
    generalize hW : World.setCell _ _ _ = W
    have B1 : Hid (SrcB W b A n c (i + 1) sd') := Lib.hid (by rw [← hW]; exact H1.out.set1.set2)
    have O1 : Hid (On b w W) := Lib.hid (by rw [← hW]; exact ((On.refl _ _).set _ _).set _ _)
    have d0 := B1.out.c0; have d1 := B1.out.c1; have d2 := B1.out.c2
    clear hW
    go_quiet (fail)
    go_wp2
    go_ret
    have h255 := and255u (sd' / 1099511627776)
    exact ⟨_, rfl, h255.1, h255.2, ⟨_, n, c, xs, _, sd', B1.out, by first | exact (H2.out.since O1.out.1 h3).drewN _ | exact ((H2.out.since O1.out.1 h3).drewN _).drewN _, h3, h4, by omega, by omega⟩, by first | exact O1.out.drewN _ | exact (O1.out.drewN _).drewN _⟩
end Go.Proofs.Ytbhigpfpnbdilaa

/- Draws: picks of numbers. -/
set_option linter.unusedVariables false
set_option linter.unusedSimpArgs false
namespace Go.Proofs.Ytbhigpfpnbdilaa
open Fl Go.RowKit
set_option maxHeartbeats 4000000 in
set_option maxRecDepth 100000 in
theorem pick_any (B b K : Nat) (n : Int) (w : World) (h : Src B b K w) (hK : K ≤ 1000000) (hn : n ≤ 1000000000) :
    Calls Try.prog 10 #[.pointer (some ⟨b, 0, none⟩), .int .i64 n] w fun e w' => ∃ v : Int, e = .returned (.int .i64 v) ∧ 0 ≤ v ∧ (1 ≤ n → v < n) ∧ Src B b (K + 2) w' ∧ On b w w' := by
  by_cases h1 : n ≤ 1
  · have hd : decide (n ≤ 1) = true := decide_eq_true h1
    go_enter Try.func10, Try.ntmps10
    go_wp2
    go_ret
    exact ⟨0, rfl, by omega, fun _ => by omega, h.up (by omega), On.refl _ _⟩
  · have hd : decide (n ≤ 1) = false := decide_eq_false h1
    have hz : n ≠ 0 := by omega
    have HH := Lib.hid h; clear h
    by_cases h2 : 200 < n
    · have hd2 : decide (200 < n) = true := decide_eq_true h2
      go_enter Try.func10, Try.ntmps10
      go_wp2_with fail
      refine (next_any B b K w HH.out (by omega)).mono ?_
      rintro e w1 ⟨v1, rfl, a1, a2, s1, o1⟩
      have S1 := Lib.hid s1; have O1 := Lib.hid o1; clear s1 o1
      go_wp2_with fail
      refine (next_any B b (K + 1) w1 S1.out (by omega)).mono ?_
      rintro e w2 ⟨v2, rfl, a3, a4, s2, o2⟩
      have S2 := Lib.hid s2; have O2 := Lib.hid o2; clear s2 o2
      go_wp2
      go_ret
      exact ⟨_, rfl, by exact Int.emod_nonneg _ hz, fun _ => by exact Int.emod_lt_of_pos _ (by omega), S2.out, O1.out.trans O2.out⟩
    · have hd2 : decide (200 < n) = false := decide_eq_false h2
      go_enter Try.func10, Try.ntmps10
      go_wp2_with fail
      refine (next_any B b K w HH.out (by omega)).mono ?_
      rintro e w1 ⟨v1, rfl, a1, a2, s1, o1⟩
      have S1 := Lib.hid s1; have O1 := Lib.hid o1; clear s1 o1
      go_wp2
      go_ret
      exact ⟨_, rfl, by exact Int.emod_nonneg _ hz, fun _ => by exact Int.emod_lt_of_pos _ (by omega), S1.out.up (by omega), O1.out⟩
end Go.Proofs.Ytbhigpfpnbdilaa

/- Draws: numbers and lists of numbers, of any bits. -/
set_option linter.unusedVariables false
set_option linter.unusedSimpArgs false
namespace Go.Proofs.Ytbhigpfpnbdilaa
open Fl Go.RowKit
theorem is_alloc (w : World) (T : TypeId) (xs : List Int) : Is (w.alloc (.cells (xs.map (Value.int .i64)).toArray T)) (w.alloc (.cells (xs.map (Value.int .i64)).toArray T)).heap.size (some ⟨w.heap.size, 0, none⟩) xs.length xs :=
  ⟨rfl, fun _ => ⟨w.heap.size, 0, rfl, by simp, fun k hk => by
    have h := Go.Deep.blk_alloc_new w (.cells (xs.map (Value.int .i64)).toArray T)
    rw [Nat.zero_add]
    unfold World.cell?
    simp only [h]
    simp [hk, iv, wi]⟩⟩
def numsA : List Int := [0, 2147483648, 2139095040, 4286578688, 2143289344, 1, 2139095039, 8388608, 8388607, 2147483649]
def numsB : List Int := [8388608, 2130706432, 1610612736, 536870912]
theorem numsA_in : ∀ k, k < 10 → 0 ≤ wi numsA k ∧ wi numsA k < 4294967296 := by decide
theorem numsB_in : ∀ k, k < 4 → 0 ≤ wi numsB k ∧ wi numsB k < 4294967296 := by decide
end Go.Proofs.Ytbhigpfpnbdilaa

/- Draws: lists of numbers, and what chooses by a byte. -/
set_option linter.unusedVariables false
set_option linter.unusedSimpArgs false
namespace Go.Proofs.Ytbhigpfpnbdilaa
open Fl Go.RowKit
/-- a row of numbers whatever they are -/
def RwA (lo : Nat) (w : World) (v : Value) (k : Nat) : Prop := (∃ F, Rw lo w v k F) ∧ ∃ g c, v = .slice (some ⟨g, 0, none⟩) k c
theorem Rw.like {lo : Nat} {w : World} {v : Value} {k : Nat} {F G : Nat → O} (h : Rw lo w v k F) (e : ∀ j, j < k → F j = G j) : Rw lo w v k G := by
  obtain ⟨os, h1, h2, h3⟩ := h
  exact ⟨os, h1, h2, fun j hj => (h3 j hj).trans (e j hj)⟩
theorem Rw.fin {lo : Nat} {w : World} {v : Value} {k : Nat} {F : Nat → O} (h : Rw lo w v k F) : ∃ (A : Option Addr) (c : Nat) (xs : List Nat), v = .slice A k c ∧ k ≤ c ∧ (A = none → k = 0 ∧ c = 0) ∧ (∀ a, A = some a → ∃ g, a = ⟨g, 0, none⟩ ∧ lo ≤ g) ∧ Gs 24 w lo A k xs ∧ Are ⟨A, k, xs⟩ F := by
  obtain ⟨os, h1, hs, hf⟩ := h
  rcases h1.2 with ⟨rfl, rfl⟩ | ⟨g, cap, cur, rfl, hg, _, hk, _⟩
  · exact ⟨none, 0, os, rfl, Nat.le_refl _, fun _ => ⟨rfl, rfl⟩, (fun a h => by cases h), Gs.of_own h1 hs, hf⟩
  · exact ⟨some ⟨g, 0, none⟩, cap, os, rfl, hk, (fun h => by cases h), fun a h => by cases h; exact ⟨g, rfl, hg⟩, Gs.of_own h1 hs, hf⟩
theorem RwA.grown {lo : Nat} {w : World} {v : Value} {k : Nat} {F : Nat → O} (h : Rw lo w v (k + 1) F) : RwA lo w v (k + 1) := by
  refine ⟨⟨F, h⟩, ?_⟩
  obtain ⟨A, c, xs, rfl, _, hn, hs, _⟩ := h.fin
  cases A with
  | none => exact absurd (hn rfl).1 (by omega)
  | some a =>
    obtain ⟨g, rfl, _⟩ := hs a rfl
    exact ⟨g, c, rfl⟩
theorem RwA.end_ {lo : Nat} {w : World} {v : Value} {k : Nat} (h : RwA lo w v k) : ∃ g c xs, v = .slice (some ⟨g, 0, none⟩) k c ∧ k ≤ c ∧ Gs 24 w lo (some ⟨g, 0, none⟩) k xs := by
  obtain ⟨⟨F, hF⟩, g, c, rfl⟩ := h
  obtain ⟨A, c', xs, e, hc, _, _, hg, _⟩ := hF.fin
  injection e with e1 e2 e3
  subst e1; subst e3
  exact ⟨g, c, xs, rfl, hc, hg⟩
theorem RwA.pick {lo : Nat} {w : World} {v : Value} {k : Nat} (h : RwA lo w v k) (Q : O) : ∃ F, Rw lo w v k F ∧ F k = Q := by
  obtain ⟨⟨F, hF⟩, _⟩ := h
  exact ⟨fun j => if j = k then Q else F j, hF.like fun j hj => by simp [show j ≠ k by omega], by simp⟩
theorem RwA.on {lo g : Nat} {w w' : World} {v : Value} {k : Nat} (h : RwA lo w v k) (o : On g w w') (hg : g < lo) : RwA lo w' v k := by
  obtain ⟨⟨F, hF⟩, hv⟩ := h
  exact ⟨⟨F, hF.on o hg⟩, hv⟩
/-- numbers that a call has drawn: a list in memory of its own -/
def PDr (n : Nat) (w : World) (e : Ending) (w' : World) : Prop := ∃ (g c : Nat) (xs : List Nat), e = .returned (.slice (some ⟨g, 0, none⟩) n c) ∧ n ≤ c ∧ Gs 24 w' w.heap.size (some ⟨g, 0, none⟩) n xs ∧ w.Since w.heap.size w'
end Go.Proofs.Ytbhigpfpnbdilaa

/- Draws: what laws draw of their bytes. -/
set_option linter.unusedVariables false
set_option linter.unusedSimpArgs false
namespace Go.Proofs.Ytbhigpfpnbdilaa
open Fl Go.RowKit
theorem source_any (A : Option Addr) (n c : Nat) (xs : List Int) (w : World) (h : Bs w w.heap.size A n xs) (hn : n ≤ 1048576) :
    Calls Try.prog 9 #[.slice A n c] w fun e w' => e = .returned (.pointer (some ⟨w.heap.size, 0, none⟩)) ∧ Src w.heap.size w.heap.size 0 w' ∧ w.Since w.heap.size w' := by
  have HH := Lib.hid h; clear h
  go_enter Try.func9, Try.ntmps9
  go_wp2
  go_ret
  refine ⟨rfl, ⟨A, n, c, xs, 0, 0, Go.Deep.blk_alloc_new _ _, HH.out.since ((World.Since.refl _ _).alloc (Nat.le_refl _) _) (Nat.le_refl _), Nat.le_refl _, hn, by omega, by omega⟩, (World.Since.refl _ _).alloc (Nat.le_refl _) _⟩
theorem r8Long_any (A B : Option Addr) (n c m d : Nat) (b : Bool) (w : World) (h : (decide ((48 : Int) < n) || decide ((48 : Int) < m)) = b) :
    Calls Try.prog 4 #[.slice A n c, .slice B m d] w fun e w' => e = .returned (.bool b) ∧ w.Since w.heap.size w' := by
  subst h
  cases h1 : decide ((48 : Int) < n)
  all_goals
    go_enter Try.func4, Try.ntmps4
    go_wp2
    go_ret
    exact ⟨ret_bool (by simp), by (repeat (first | (with_reducible refine Fl.sinDrew ?_) | (with_reducible refine World.Since.drew ?_) | (with_reducible refine Fl.sinSet ?_ ?_; rotate_left) | (with_reducible refine Fl.sinAlloc ?_ ?_; rotate_left) | with_reducible exact World.Since.refl _ _ | with_reducible assumption | (with_reducible refine Fl.sinStep (by with_reducible assumption) ?_))); all_goals (first | omega | (simp; done) | (simp; omega) | (simp [go_sem]; done) | (simp [go_sem]; omega))⟩
end Go.Proofs.Ytbhigpfpnbdilaa

/- Draws: lists that a law compares, and the bytes of a law. -/
set_option linter.unusedVariables false
set_option linter.unusedSimpArgs false
namespace Go.Proofs.Ytbhigpfpnbdilaa
open Fl Go.RowKit
namespace Fl
open Go.ChangeShapes Go.WideShapes Go.RowKit Go.WideMaps Go.WideElems
section
variable {H : Type} {enc : TypeId × Value → H} {P : Program}
theorem open_bs {W : World} {base b0 : Nat} {r : Reach} {t e : TypeId} {v : Value} {d : DataW H} {ps : List MemPlace} (ht : P.underlying t = some (.slice e)) (he : P.underlying e = some (.int .u8)) (hc : P.cellsOf e = 1)
    (hval : Value.okWide P W r b0 t v) (h : DataW.Trod enc P W base (fun _ => true) true t v d ps) :
    ∃ (A : Option Addr) (n c : Nat) (xs : List Int), v = .slice A n c ∧ Bs W W.heap.size A n xs ∧ n ≤ 9223372036854775807 := by
  obtain ⟨A, n, c, rfl⟩ := okWide_slice ht hval
  obtain ⟨fuel, hf⟩ := h
  rcases Go.Deep.open_slice ht hf with ⟨hcs, _⟩ | ⟨a, len, cap, m, k, D, Pl, hcs, _, hl, hm, hmm, _, hi⟩
  · simp only [Value.cells, Array.toList] at hcs
    injection hcs with hcs _
    injection hcs with h1 h2 h3
    subst h1; subst h2; subst h3
    exact ⟨none, 0, 0, [], rfl, ⟨rfl, (fun k => by simp [wi]), (fun h => by omega)⟩, by omega⟩
  · simp only [Value.cells, Array.toList] at hcs
    injection hcs with hcs _
    injection hcs with h1 h2 h3
    subst h1; subst h2; subst h3
    rw [if_pos rfl] at hmm
    subst hmm
    have hcell : ∀ i, i < m → ∃ b : Int, W.cell? (a.add i) = some (.int .u8 b) ∧ (Lit.int .u8 b).wf = true := by
      intro i him
      obtain ⟨cs', hcs', htr⟩ := hi i him
      rw [hc, Nat.mul_one] at hcs'
      obtain ⟨_, hlen, hat⟩ := World.cells?_some hcs'
      obtain ⟨b, hb, hw⟩ := trod_in he htr
      have h0 := hat 0 (by omega)
      rw [hb] at h0
      refine ⟨b, ?_, hw⟩
      have e : (a.add i).add 0 = a.add i := by simp [Addr.add]
      rw [e] at h0
      exact h0
    let f : Nat → Int := fun i => if h : i < m then Classical.choose (hcell i h) else 0
    have hfs : ∀ i (h : i < m), W.cell? (a.add i) = some (.int .u8 (f i)) ∧ (Lit.int .u8 (f i)).wf = true := by
      intro i h
      have := Classical.choose_spec (hcell i h)
      simp only [f, dif_pos h]
      exact this
    have hw8 : ∀ i, 0 ≤ f i ∧ f i < 256 := by
      intro i
      by_cases h : i < m
      · have h1 := (hfs i h).2
        simp only [Lit.wf, Bool.and_eq_true, decide_eq_true_eq] at h1
        have e1 : IntKind.min .u8 = 0 := by kernel_rfl
        have e2 : IntKind.max .u8 = 255 := by kernel_rfl
        rw [e1, e2] at h1
        omega
      · simp [f, h]
    refine ⟨some a, n, m, (List.range n).map f, rfl, ⟨by simp, ?_, ?_⟩, by unfold maxLen at hm; omega⟩
    · intro k
      unfold wi
      by_cases hk : k < n
      · simpa [hk] using hw8 k
      · simp [hk]
    · intro hn
      obtain ⟨g, off, spot⟩ := a
      have h0 := (hfs 0 (by omega)).1
      have hspot : spot = none := by simpa [Addr.add] using World.cell?_spot h0
      subst hspot
      refine ⟨g, off, rfl, ?_, fun k hk => ?_⟩
      · have h1 : W.cell? ⟨g, off, none⟩ = some (.int .u8 (f 0)) := by simpa [Addr.add] using h0
        rcases Nat.lt_or_ge g W.heap.size with h2 | h2
        · exact h2
        · simp [World.cell?, Array.getElem?_eq_none h2] at h1
      · have h1 := (hfs k (by omega)).1
        rw [Go.WideShapes.add_plain] at h1
        rw [h1]
        unfold wi
        simp [hk]
end
end Fl
end Go.Proofs.Ytbhigpfpnbdilaa

/- Rows of numbers that have a property; whole numbers that are drawn. -/
set_option linter.unusedVariables false
set_option linter.unusedSimpArgs false
namespace Go.Proofs.Ytbhigpfpnbdilaa
open Fl Go.RowKit
/-- a row of numbers that all have a property -/
def PrA (P : O → Prop) (lo : Nat) (w : World) (v : Value) (k : Nat) : Prop := (∃ F, Rw lo w v k F ∧ ∀ j, j < k → P (F j)) ∧ ∃ g c, v = .slice (some ⟨g, 0, none⟩) k c
section
variable {P : O → Prop}
theorem PrA.start (w : World) (T : TypeId) (lo : Nat) (h : lo ≤ w.heap.size) (hT : T = 24) : PrA P lo (w.alloc (.cells #[] T)) (.slice (some ⟨w.heap.size, 0, none⟩) 0 0) 0 := by
  subst hT
  exact ⟨⟨fun _ => none, Rw.start w _ h _, fun j hj => by omega⟩, _, _, rfl⟩
theorem PrA.grown {lo : Nat} {w : World} {v : Value} {k : Nat} {F : Nat → O} (h : Rw lo w v (k + 1) F) (hp : ∀ j, j < k + 1 → P (F j)) : PrA P lo w v (k + 1) := by
  refine ⟨⟨F, h, hp⟩, ?_⟩
  obtain ⟨A, c, xs, rfl, _, hn, hs, _⟩ := h.fin
  cases A with
  | none => exact absurd (hn rfl).1 (by omega)
  | some a =>
    obtain ⟨g, rfl, _⟩ := hs a rfl
    exact ⟨g, c, rfl⟩
theorem PrA.end_ {lo : Nat} {w : World} {v : Value} {k : Nat} (h : PrA P lo w v k) : ∃ g c xs, v = .slice (some ⟨g, 0, none⟩) k c ∧ k ≤ c ∧ Gs 24 w lo (some ⟨g, 0, none⟩) k xs ∧ ∀ j, j < k → P (ab .f32 (wd xs j)) := by
  obtain ⟨⟨F, hF, hp⟩, g, c, rfl⟩ := h
  obtain ⟨A, c', xs, e, hc, _, _, hg, hf⟩ := hF.fin
  injection e with e1 e2 e3
  subst e1; subst e3
  exact ⟨g, c, xs, rfl, hc, hg, fun j hj => by rw [hf j hj]; exact hp j hj⟩
theorem PrA.pick {lo : Nat} {w : World} {v : Value} {k : Nat} {Q : O} (h : PrA P lo w v k) (hq : P Q) : ∃ F, Rw lo w v k F ∧ F k = Q ∧ ∀ j, j < k + 1 → P (F j) := by
  obtain ⟨⟨F, hF, hp⟩, _⟩ := h
  exact ⟨fun j => if j = k then Q else F j, hF.like fun j hj => by simp [show j ≠ k by omega], by simp, fun j hj => by
    by_cases e : j = k
    · simp only [e, if_true]; exact hq
    · simp only [e, if_false]; exact hp j (by omega)⟩
theorem PrA.on {lo g : Nat} {w w' : World} {v : Value} {k : Nat} (h : PrA P lo w v k) (o : On g w w') (hg : g < lo) : PrA P lo w' v k := by
  obtain ⟨⟨F, hF, hp⟩, hv⟩ := h
  exact ⟨⟨F, hF.on o hg, hp⟩, hv⟩
end
/-- numbers that a call has drawn, all with a property: a list in memory of its own -/
def PPr (P : O → Prop) (n : Nat) (w : World) (e : Ending) (w' : World) : Prop := ∃ (g c : Nat) (xs : List Nat), e = .returned (.slice (some ⟨g, 0, none⟩) n c) ∧ n ≤ c ∧ Gs 24 w' w.heap.size (some ⟨g, 0, none⟩) n xs ∧ Hid (∀ j, j < n → P (ab .f32 (wd xs j))) ∧ w.Since w.heap.size w'
/-- a whole number of a size of at most m -/
def Wh (m : Nat) (X : O) : Prop := ∃ z : Int, z.natAbs ≤ m ∧ X = some (fI z)
end Go.Proofs.Ytbhigpfpnbdilaa

/- Draws: small whole numbers. -/
set_option linter.unusedVariables false
set_option linter.unusedSimpArgs false
namespace Go.Proofs.Ytbhigpfpnbdilaa
open Fl Go.RowKit
set_option maxHeartbeats 4000000 in
set_option maxRecDepth 100000 in
theorem R8Whole_any (A : Option Addr) (n c : Nat) (xs : List Int) (N : Nat) (w : World) (h : Bs w w.heap.size A n xs) (hn : n ≤ 1048576) (hN : N ≤ 9000) :
    Calls Try.prog 6 #[.slice A n c, .int .i64 (N : Int), .int .i64 8] w (PPr (Wh 8) N w) := by
  have HH := Lib.hid h; clear h
  go_enter Try.func6, Try.ntmps6
  go_wp2_with fail
  refine (source_any A n c xs w HH.out hn).mono ?_
  rintro e w1 ⟨rfl, s1, t1⟩
  have S1 := Lib.hid s1; have T1 := Lib.hid t1; clear s1 t1
  go_wp2_with fail
  generalize hW : World.alloc _ _ = W
  have z1 := T1.out.size
  have R2 : Hid (PrA (Wh 8) w1.heap.size W (.slice (some ⟨w1.heap.size, 0, none⟩) 0 0) 0) := Lib.hid (by rw [← hW]; exact PrA.start w1 _ _ (Nat.le_refl _) rfl)
  have S2 : Hid (Src w.heap.size w.heap.size 0 W) := Lib.hid (S1.out.on (by rw [← hW]; exact (World.Since.refl _ _).alloc (by have := S1.out.lt; omega) _))
  have O2 : Hid (On w.heap.size w1 W) := Lib.hid (by rw [← hW]; exact (On.refl _ _).alloc z1 _)
  have hl1 : w.heap.size < w1.heap.size := S1.out.lt
  clear hW
  go_loopw [8, 9] (fun v i wr => ∃ k : Nat, k ≤ N ∧ i = .int .i64 (k : Int) ∧ PrA (Wh 8) w1.heap.size wr v k ∧ Src w.heap.size w.heap.size (2 * k) wr ∧ On w.heap.size w1 wr) (fun _ i _ => N - (intOf i).toNat)
  case atStart => exact ⟨0, Nat.zero_le _, rfl, R2.out, S2.out, O2.out⟩
  case round =>
    obtain ⟨k, hk, rfl, hr, hs, ho⟩ := hrel
    have HR := Lib.hid hr; have HS := Lib.hid hs; have HO := Lib.hid ho
    clear hr hs ho
    by_cases hlt2 : k < N
    · go_wp2_with fail
      refine (pick_any w.heap.size w.heap.size (2 * k) 17 wr HS.out (by omega) (by omega)).mono ?_
      rintro e w3 ⟨v3, rfl, b1, b2, s3, o3⟩
      have b3 := b2 (by omega)
      have S3 : Hid (Src w.heap.size w.heap.size (2 * (k + 1)) w3) := Lib.hid (s3.up (by omega))
      have O3 := Lib.hid (HO.out.trans o3); have R3 := Lib.hid (HR.out.on o3 hl1)
      clear s3 o3 b2
      have hq := fI_fv (v3 - 8)
      have hpl : Wh 8 (some (fI (v3 - 8))) := ⟨v3 - 8, by omega, rfl⟩
      obtain ⟨F, hF, hFk, hFp⟩ := R3.out.pick hpl
      have hlo : w1.heap.size ≤ w3.heap.size := O3.out.1.size
      have HF := Lib.hid hF; have HP := Lib.hid hFp; clear hF hFp
      have hz : Hid (Fv .f32 (fI (v3 - 8)) (F k)) := by rw [hFk]; exact hq
      clear hpl hFk
      go_wp2_with (at_builtin; refine wpList_app1 rfl (.tmp 18) (.tmp 27) rfl w1.heap.size _ k _ rfl _ _ rfl (by simp [go_sem]; rfl) (by omega) (by simp; omega) hz (HF.out.alloc _) ?_; intro v' w4 hR4 hS4)
      have hs4 : w3.Since w1.heap.size w4 := ((World.Since.refl _ _).alloc hlo _).trans hS4.out
      have HS4 := Lib.hid hs4; clear hs4
      go_roundw
      case rel => exact ⟨k + 1, by omega, by go_num, PrA.grown hR4.out HP.out, S3.out.on (since_mono HS4.out (by omega)), on_post O3.out HS4.out (Nat.le_refl _) hl1⟩
      case measure => simp [intOf]; omega
    · obtain rfl : k = N := by omega
      obtain ⟨g, cp, zs, rfl, hcp, hg, hpp⟩ := HR.out.end_
      have HG := Lib.hid (hg.less z1); have HPP := Lib.hid hpp; clear hg hpp
      have T3 : Hid (w.Since w.heap.size wr) := Lib.hid (T1.out.trans (HO.out.since (Nat.le_refl _)))
      go_wp2
      go_ret
      exact ⟨g, cp, zs, rfl, hcp, HG.out, HPP, T3.out⟩
end Go.Proofs.Ytbhigpfpnbdilaa

/- The model's step of a filter. -/
set_option linter.unusedVariables false
set_option linter.unusedSimpArgs false
namespace Go.Proofs.Ytbhigpfpnbdilaa
open Fl Go.RowKit

theorem Lo.keep1 {ds : List Nat} {a : Act} {t : Nat} {v : Value} (hv : a.tmps.getD t undef = v) (ht : ds.contains t = false) (b : Act) (h : Lo.AR (fun i => ds.contains i) a b) : [Operand.tmp t].map b.eval = [v] := by
  have := (h.2.2 t).2 ht
  simp only [List.map_cons, List.map_nil, Act.eval]
  rw [this, hv]

theorem fvZ : Hid (Fv .f32 0 (some 0)) := Lib.hid ⟨by decide, by rw [ab32]; rfl⟩
theorem fvZ2 : Hid (Fv .f32 (flushN 0) (flO true (some 0))) := by
  have h9 := flO_fv fvZ true
  rw [if_pos rfl] at h9
  exact h9
end Go.Proofs.Ytbhigpfpnbdilaa

/- The program's step of a filter. -/
set_option linter.unusedVariables false
set_option linter.unusedSimpArgs false
namespace Go.Proofs.Ytbhigpfpnbdilaa
open Fl Go.RowKit
def setV (f : FilN) (fu : Bool) : Value := .agg #[.float .f32 f.b0, .float .f32 f.b1, .float .f32 f.b2, .float .f32 f.a1, .float .f32 f.a2, .bool fu]
def rawM (form : Nat) (fu : Bool) (f : Fil) (m : Mem) (x : O) : Mem :=
  match form with
  | 0 => ⟨x, m.a, dirY fu f.b0 f.b1 f.b2 f.a1 f.a2 m.a m.b m.c m.d x, m.c⟩
  | 1 => ⟨turA f.b1 f.a1 m.b x (turY fu f.b0 m.a x), turB f.b2 f.a2 x (turY fu f.b0 m.a x), some 0, some 0⟩
  | _ => ⟨canW fu f.a1 f.a2 m.a m.b x, m.a, some 0, some 0⟩

theorem implFlush_fv {b : Nat} {F : O} (h : Hid (Fv .f32 b F)) (w : World) : Calls Try.prog 24 #[.float .f32 b] w fun e w' => e = .returned (.float .f32 (flushN b)) ∧ w = w' :=
  implFlush_any b w h.out.1

theorem flushed_any (f : FilN) (fu : Bool) (x : Nat) (X : O) (w : World) (hx : Hid (Fv .f32 x X)) :
    Calls Try.prog 23 #[setV f fu, .float .f32 x] w fun e w' => ∃ r : Nat, e = .returned (.float .f32 r) ∧ Hid (Fv .f32 r (flO fu X)) ∧ w.Since w.heap.size w' := by
  have h2 := flO_fv hx
  obtain ⟨b0, b1, b2, a1, a2⟩ := f
  unfold setV
  cases fu
  · have h3 := h2 false
    clear h2
    go_enter Try.func23, Try.ntmps23
    go_wp2
    go_ret
    exact ⟨x, rfl, h3, by (repeat (first | (with_reducible refine Fl.sinDrew ?_) | (with_reducible refine World.Since.drew ?_) | (with_reducible refine Fl.sinSet ?_ ?_; rotate_left) | (with_reducible refine Fl.sinAlloc ?_ ?_; rotate_left) | with_reducible exact World.Since.refl _ _ | with_reducible assumption | (with_reducible refine Fl.sinStep (by with_reducible assumption) ?_))); all_goals (first | omega | (simp; done) | (simp; omega) | (simp [go_sem]; done) | (simp [go_sem]; omega))⟩
  · have h3 := h2 true
    clear h2
    go_enter Try.func23, Try.ntmps23
    go_wp2_with (go_at_call 24; refine (implFlush_fv hx _).mono ?_; rintro e w' ⟨rfl, rfl⟩)
    go_ret
    exact ⟨flushN x, rfl, h3, by (repeat (first | (with_reducible refine Fl.sinDrew ?_) | (with_reducible refine World.Since.drew ?_) | (with_reducible refine Fl.sinSet ?_ ?_; rotate_left) | (with_reducible refine Fl.sinAlloc ?_ ?_; rotate_left) | with_reducible exact World.Since.refl _ _ | with_reducible assumption | (with_reducible refine Fl.sinStep (by with_reducible assumption) ?_))); all_goals (first | omega | (simp; done) | (simp; omega) | (simp [go_sem]; done) | (simp [go_sem]; omega))⟩

set_option maxHeartbeats 4000000 in
set_option maxRecDepth 100000 in
theorem implDir_any (fu : Bool) (f : FilN) (m : MemN) (x : Nat) (F : Fil) (M : Mem) (X : O) (w : World) (hF : FvF f F) (hM : FvM m M) (hx : Hid (Fv .f32 x X)) :
    Calls Try.prog 19 #[setV f fu, m.val, .float .f32 x] w (StepPost w (stepY 0 fu F M X) (rawM 0 fu F M X)) := by
  have hfl := flushed_any f fu
  obtain ⟨b0, b1, b2, a1, a2⟩ := f
  obtain ⟨ma, mb, mc, md⟩ := m
  obtain ⟨f0, f1, f2, f3, f4⟩ := hF
  obtain ⟨m0, m1, m2, m3⟩ := hM
  simp only at f0 f1 f2 f3 f4 m0 m1 m2 m3
  unfold MemN.val
  unfold setV at *
  have HF := Lib.hid hfl; clear hfl
  go_enter Try.func19, Try.ntmps19
  go_wp2_with (first | (go_at_call 23; refine (HF.out _ _ _ (by assumption)).mono ?_; rintro e w' ⟨y, rfl, hy, hs⟩; have z0 : w.heap.size < w'.heap.size := (by have hsz := hs.size; simp only [Fl.size_drewN, Go.Deep.nblk_alloc, Go.Deep.nblk_setCell] at hsz; omega); have z1 : w.heap.size + 1 < w'.heap.size := (by have hsz := hs.size; simp only [Fl.size_drewN, Go.Deep.nblk_alloc, Go.Deep.nblk_setCell] at hsz; omega); have z2 : w.heap.size + 1 + 1 < w'.heap.size := (by have hsz := hs.size; simp only [Fl.size_drewN, Go.Deep.nblk_alloc, Go.Deep.nblk_setCell] at hsz; omega); obtain ⟨hcc, hff⟩ := Fl.sinCell hs; have HS := Lib.hid hs; clear hs) | (with_reducible_and_instances refine Lo.wpList_fo _ rfl _ _ _ _ _ rfl _ _ _ _ _ rfl rfl rfl (by assumption) (by assumption) ?_; intro rr nn hrr))
  refine Lo.wp_loose_tail [] 9 (by kernel_rfl) (by kernel_rfl) ?_
  simp only [List.take_succ_cons, List.take_zero, List.drop_succ_cons, List.drop_zero]
  repeat (first
    | (refine Lo.wpL_move rfl _ (.inl rfl) (by decide) ?_; simp only [Act.put, List.setIfInBounds_toArray, List.set_cons_succ, List.set_cons_zero])
    | (refine Lo.wpL_move rfl _ (.inr rfl) (by decide) ?_; simp only [Act.put, List.setIfInBounds_toArray, List.set_cons_succ, List.set_cons_zero])
    | (refine Lo.wpL_fop rfl _ _ _ _ rfl rfl (by decide) _ _ _ _ _ rfl rfl (by assumption) (by assumption) ?_; intro rr hrr; simp only [Act.put, List.setIfInBounds_toArray, List.set_cons_succ, List.set_cons_zero])
    | (refine Lo.wpL_wide rfl _ _ _ rfl (by decide) _ _ rfl (by kernel_rfl) (by kernel_rfl) (by assumption) ?_; intro rr hrr; simp only [Act.put, List.setIfInBounds_toArray, List.set_cons_succ, List.set_cons_zero])
    | (refine Lo.wpL_quiet rfl (by decide) (fun K hK => ?_); go_big_quiet_op; (refine hK _ ?_; clear hK K)))
  refine Lo.wpL_nil ?_
  refine Lo.after_nil ?_; intro nq
  go_wp2
  exact bodyPost_ret (v := .tuple #[.float .f32 y, .agg #[.float .f32 x, .float .f32 ma, .float .f32 y, .float .f32 mc]]) (by simp [results, Try.results19, go_sem, hcc, hff]) rfl
    ⟨y, ⟨x, ma, y, mc⟩, rfl, hy, ⟨hx, m0, hy, m2⟩, by (repeat (first | (with_reducible refine Fl.sinDrew ?_) | (with_reducible refine World.Since.drew ?_) | (with_reducible refine Fl.sinSet ?_ ?_; rotate_left) | (with_reducible refine Fl.sinAlloc ?_ ?_; rotate_left) | with_reducible exact World.Since.refl _ _ | with_reducible assumption | (with_reducible refine Fl.sinStep (by with_reducible assumption) ?_))); all_goals (first | omega | (simp; done) | (simp; omega) | (simp [go_sem]; done) | (simp [go_sem]; omega))⟩

set_option maxHeartbeats 4000000 in
set_option maxRecDepth 100000 in
theorem implTur_any (fu : Bool) (f : FilN) (m : MemN) (x : Nat) (F : Fil) (M : Mem) (X : O) (w : World) (hF : FvF f F) (hM : FvM m M) (hx : Hid (Fv .f32 x X)) :
    Calls Try.prog 20 #[setV f fu, m.val, .float .f32 x] w (StepPost w (stepY 1 fu F M X) (rawM 1 fu F M X)) := by
  have hfl := flushed_any f fu
  obtain ⟨b0, b1, b2, a1, a2⟩ := f
  obtain ⟨ma, mb, mc, md⟩ := m
  obtain ⟨f0, f1, f2, f3, f4⟩ := hF
  obtain ⟨m0, m1, m2, m3⟩ := hM
  simp only at f0 f1 f2 f3 f4 m0 m1 m2 m3
  unfold MemN.val
  unfold setV at *
  have HF := Lib.hid hfl; clear hfl
  go_enter Try.func20, Try.ntmps20
  go_wp2_with (first | (go_at_call 23; refine (HF.out _ _ _ (by assumption)).mono ?_; rintro e w' ⟨y, rfl, hy, hs⟩; have z0 : w.heap.size < w'.heap.size := (by have hsz := hs.size; simp only [Fl.size_drewN, Go.Deep.nblk_alloc, Go.Deep.nblk_setCell] at hsz; omega); have z1 : w.heap.size + 1 < w'.heap.size := (by have hsz := hs.size; simp only [Fl.size_drewN, Go.Deep.nblk_alloc, Go.Deep.nblk_setCell] at hsz; omega); have z2 : w.heap.size + 1 + 1 < w'.heap.size := (by have hsz := hs.size; simp only [Fl.size_drewN, Go.Deep.nblk_alloc, Go.Deep.nblk_setCell] at hsz; omega); obtain ⟨hcc, hff⟩ := Fl.sinCell hs; have HS := Lib.hid hs; clear hs) | (with_reducible_and_instances refine Lo.wpList_fo _ rfl _ _ _ _ _ rfl _ _ _ _ _ rfl rfl rfl (by assumption) (by assumption) ?_; intro rr nn hrr))
  rename_i _ _ _ _ _ _ rA _ hA _ _ _ _ _ _
  exact bodyPost_ret (v := .tuple #[.float .f32 y, .agg #[.float .f32 rA, .float .f32 rr, .float .f32 0, .float .f32 0]]) (by simp [results, Try.results20, go_sem, hcc, hff]) rfl
    ⟨y, ⟨rA, rr, 0, 0⟩, rfl, hy, ⟨hA, hrr, fvZ, fvZ⟩, by (repeat (first | (with_reducible refine Fl.sinDrew ?_) | (with_reducible refine World.Since.drew ?_) | (with_reducible refine Fl.sinSet ?_ ?_; rotate_left) | (with_reducible refine Fl.sinAlloc ?_ ?_; rotate_left) | with_reducible exact World.Since.refl _ _ | with_reducible assumption | (with_reducible refine Fl.sinStep (by with_reducible assumption) ?_))); all_goals (first | omega | (simp; done) | (simp; omega) | (simp [go_sem]; done) | (simp [go_sem]; omega))⟩

set_option maxHeartbeats 4000000 in
set_option maxRecDepth 100000 in
theorem implCan_any (fu : Bool) (f : FilN) (m : MemN) (x : Nat) (F : Fil) (M : Mem) (X : O) (w : World) (hF : FvF f F) (hM : FvM m M) (hx : Hid (Fv .f32 x X)) :
    Calls Try.prog 21 #[setV f fu, m.val, .float .f32 x] w (StepPost w (stepY 2 fu F M X) (rawM 2 fu F M X)) := by
  have hfl := flushed_any f fu
  obtain ⟨b0, b1, b2, a1, a2⟩ := f
  obtain ⟨ma, mb, mc, md⟩ := m
  obtain ⟨f0, f1, f2, f3, f4⟩ := hF
  obtain ⟨m0, m1, m2, m3⟩ := hM
  simp only at f0 f1 f2 f3 f4 m0 m1 m2 m3
  unfold MemN.val
  unfold setV at *
  have HF := Lib.hid hfl; clear hfl
  go_enter Try.func21, Try.ntmps21
  go_wp2_with (first | (go_at_call 23; refine (HF.out _ _ _ (by assumption)).mono ?_; rintro e w' ⟨y, rfl, hy, hs⟩; have z0 : w.heap.size < w'.heap.size := (by have hsz := hs.size; simp only [Fl.size_drewN, Go.Deep.nblk_alloc, Go.Deep.nblk_setCell] at hsz; omega); have z1 : w.heap.size + 1 < w'.heap.size := (by have hsz := hs.size; simp only [Fl.size_drewN, Go.Deep.nblk_alloc, Go.Deep.nblk_setCell] at hsz; omega); have z2 : w.heap.size + 1 + 1 < w'.heap.size := (by have hsz := hs.size; simp only [Fl.size_drewN, Go.Deep.nblk_alloc, Go.Deep.nblk_setCell] at hsz; omega); obtain ⟨hcc, hff⟩ := Fl.sinCell hs; have HS := Lib.hid hs; clear hs) | (with_reducible_and_instances refine Lo.wpList_fo _ rfl _ _ _ _ _ rfl _ _ _ _ _ rfl rfl rfl (by assumption) (by assumption) ?_; intro rr nn hrr))
  go_region_with (go_at_call 23; refine (HF.out _ _ _ (by assumption)).mono ?_; rintro e w2 ⟨z, rfl, hz, hs0⟩; have hs : w'.Since w'.heap.size w2 := ⟨hs0.os, hs0.tape, hs0.output, hs0.size, hs0.block⟩; clear hs0; have z3 : w.heap.size + 1 + 1 < w2.heap.size := Nat.lt_of_lt_of_le z2 hs.size; obtain ⟨hcc2, hff2⟩ := Fl.sinCell hs; have HS2 := Lib.hid hs; clear hs)
  all_goals
    go_wp2
    exact bodyPost_ret (v := .tuple #[.float .f32 z, .agg #[.float .f32 y, .float .f32 ma, .float .f32 0, .float .f32 0]]) (by simp [results, Try.results21, go_sem, hcc, hff, hcc2, hff2, z0, z1, z2, z3]) rfl
      ⟨z, ⟨y, ma, 0, 0⟩, rfl, hz, ⟨hy, m0, fvZ, fvZ⟩, by (repeat (first | (with_reducible refine Fl.sinDrew ?_) | (with_reducible refine World.Since.drew ?_) | (with_reducible refine Fl.sinSet ?_ ?_; rotate_left) | (with_reducible refine Fl.sinAlloc ?_ ?_; rotate_left) | with_reducible exact World.Since.refl _ _ | with_reducible assumption | (with_reducible refine Fl.sinStep (by with_reducible assumption) ?_))); all_goals (first | omega | (simp; done) | (simp; omega) | (simp [go_sem]; done) | (simp [go_sem]; omega))⟩
end Go.Proofs.Ytbhigpfpnbdilaa

/- The program's next step and memory. -/
set_option linter.unusedVariables false
set_option linter.unusedSimpArgs false
namespace Go.Proofs.Ytbhigpfpnbdilaa
open Fl Go.RowKit
set_option maxHeartbeats 4000000 in
set_option maxRecDepth 100000 in
theorem nextDir_any (fu : Bool) (f : FilN) (m : MemN) (x : Nat) (F : Fil) (M : Mem) (X : O) (w : World) (hF : FvF f F) (hM : FvM m M) (hx : Hid (Fv .f32 x X)) :
    Calls Try.prog 22 #[setV f fu, .func (.func 19) #[] #[], m.val, .float .f32 x] w (StepPost w (stepY 0 fu F M X) (flM fu (rawM 0 fu F M X))) := by
  have hfl := flushed_any f fu
  have hst := implDir_any fu f m x F M X
  obtain ⟨b0, b1, b2, a1, a2⟩ := f
  obtain ⟨ma, mb, mc, md⟩ := m
  unfold MemN.val at *
  unfold setV at *
  have HF := Lib.hid hfl; clear hfl
  have HT := Lib.hid hst; clear hst
  have HX := Lib.hid hx; clear hx
  have HFF := Lib.hid hF; clear hF
  have HMM := Lib.hid hM; clear hM
  go_enter Try.func22, Try.ntmps22
  go_wp2_with (go_at_call 19; refine (HT.out _ HFF.out HMM.out HX.out).mono ?_; rintro e w' ⟨y, ⟨ra, rb, rc, rd⟩, rfl, hy, hm, hs⟩; have z0 : w.heap.size < w'.heap.size := (by have hsz := hs.size; simp only [Fl.size_drewN, Go.Deep.nblk_alloc, Go.Deep.nblk_setCell] at hsz; omega); have z1 : w.heap.size + 1 < w'.heap.size := (by have hsz := hs.size; simp only [Fl.size_drewN, Go.Deep.nblk_alloc, Go.Deep.nblk_setCell] at hsz; omega); have z2 : w.heap.size + 1 + 1 < w'.heap.size := (by have hsz := hs.size; simp only [Fl.size_drewN, Go.Deep.nblk_alloc, Go.Deep.nblk_setCell] at hsz; omega); obtain ⟨hcc, hff⟩ := Fl.sinCell hs; have HS := Lib.hid hs; clear hs; have HMV := Lib.hid hm; clear hm; unfold MemN.val)
  have i0 : ∀ w, (Instr.index 54 (.agg #[.float .f32 ra, .float .f32 rb, .float .f32 rc, .float .f32 rd]) (.int .i64 0)).run Try.prog w = .ok (.float .f32 ra) w := fun _ => by kernel_rfl
  have i1 : ∀ w, (Instr.index 54 (.agg #[.float .f32 ra, .float .f32 rb, .float .f32 rc, .float .f32 rd]) (.int .i64 1)).run Try.prog w = .ok (.float .f32 rb) w := fun _ => by kernel_rfl
  have i2 : ∀ w, (Instr.index 54 (.agg #[.float .f32 ra, .float .f32 rb, .float .f32 rc, .float .f32 rd]) (.int .i64 2)).run Try.prog w = .ok (.float .f32 rc) w := fun _ => by kernel_rfl
  have i3 : ∀ w, (Instr.index 54 (.agg #[.float .f32 ra, .float .f32 rb, .float .f32 rc, .float .f32 rd]) (.int .i64 3)).run Try.prog w = .ok (.float .f32 rd) w := fun _ => by kernel_rfl
  refine wp_loop_rounds 5 ?_
  rw [rounds_succ]
  go_wp2_with (go_at_call 23; refine (HF.out _ _ _ HMV.out.a).mono ?_; rintro e w1 ⟨p1, rfl, hp1, hs⟩; have y10 : w.heap.size < w1.heap.size := (by have hsz := hs.size; simp only [Fl.size_drewN, Go.Deep.nblk_alloc, Go.Deep.nblk_setCell] at hsz; omega); have y11 : w.heap.size + 1 < w1.heap.size := (by have hsz := hs.size; simp only [Fl.size_drewN, Go.Deep.nblk_alloc, Go.Deep.nblk_setCell] at hsz; omega); have y12 : w.heap.size + 1 + 1 < w1.heap.size := (by have hsz := hs.size; simp only [Fl.size_drewN, Go.Deep.nblk_alloc, Go.Deep.nblk_setCell] at hsz; omega); obtain ⟨hc1, hf1⟩ := Fl.sinCell hs; have S1 := Lib.hid hs; clear hs)
  rw [rounds_succ]
  go_wp2_with (go_at_call 23; refine (HF.out _ _ _ HMV.out.b).mono ?_; rintro e w2 ⟨p2, rfl, hp2, hs⟩; have y20 : w.heap.size < w2.heap.size := (by have hsz := hs.size; simp only [Fl.size_drewN, Go.Deep.nblk_alloc, Go.Deep.nblk_setCell] at hsz; omega); have y21 : w.heap.size + 1 < w2.heap.size := (by have hsz := hs.size; simp only [Fl.size_drewN, Go.Deep.nblk_alloc, Go.Deep.nblk_setCell] at hsz; omega); have y22 : w.heap.size + 1 + 1 < w2.heap.size := (by have hsz := hs.size; simp only [Fl.size_drewN, Go.Deep.nblk_alloc, Go.Deep.nblk_setCell] at hsz; omega); obtain ⟨hc2, hf2⟩ := Fl.sinCell hs; have S2 := Lib.hid hs; clear hs)
  rw [rounds_succ]
  go_wp2_with (go_at_call 23; refine (HF.out _ _ _ HMV.out.c).mono ?_; rintro e w3 ⟨p3, rfl, hp3, hs⟩; have y30 : w.heap.size < w3.heap.size := (by have hsz := hs.size; simp only [Fl.size_drewN, Go.Deep.nblk_alloc, Go.Deep.nblk_setCell] at hsz; omega); have y31 : w.heap.size + 1 < w3.heap.size := (by have hsz := hs.size; simp only [Fl.size_drewN, Go.Deep.nblk_alloc, Go.Deep.nblk_setCell] at hsz; omega); have y32 : w.heap.size + 1 + 1 < w3.heap.size := (by have hsz := hs.size; simp only [Fl.size_drewN, Go.Deep.nblk_alloc, Go.Deep.nblk_setCell] at hsz; omega); obtain ⟨hc3, hf3⟩ := Fl.sinCell hs; have S3 := Lib.hid hs; clear hs)
  rw [rounds_succ]
  go_wp2_with (go_at_call 23; refine (HF.out _ _ _ HMV.out.d).mono ?_; rintro e w4 ⟨p4, rfl, hp4, hs⟩; have y40 : w.heap.size < w4.heap.size := (by have hsz := hs.size; simp only [Fl.size_drewN, Go.Deep.nblk_alloc, Go.Deep.nblk_setCell] at hsz; omega); have y41 : w.heap.size + 1 < w4.heap.size := (by have hsz := hs.size; simp only [Fl.size_drewN, Go.Deep.nblk_alloc, Go.Deep.nblk_setCell] at hsz; omega); have y42 : w.heap.size + 1 + 1 < w4.heap.size := (by have hsz := hs.size; simp only [Fl.size_drewN, Go.Deep.nblk_alloc, Go.Deep.nblk_setCell] at hsz; omega); obtain ⟨hc4, hf4⟩ := Fl.sinCell hs; have S4 := Lib.hid hs; clear hs)
  rw [rounds_succ]
  go_wp2
  have a1 : w1.cell? ⟨w.heap.size + 1, 0, none⟩ = some (.float .f32 ra) := by simp [go_sem, hcc, hff, z0, z1, z2, hc1, hf1, y10, y11, y12, hc2, hf2, y20, y21, y22, hc3, hf3, y30, y31, y32, hc4, hf4, y40, y41, y42]
  have a2 : w2.cell? ⟨w.heap.size + 1, 1, none⟩ = some (.float .f32 rb) := by simp [go_sem, hcc, hff, z0, z1, z2, hc1, hf1, y10, y11, y12, hc2, hf2, y20, y21, y22, hc3, hf3, y30, y31, y32, hc4, hf4, y40, y41, y42]
  have a3 : w3.cell? ⟨w.heap.size + 1, 2, none⟩ = some (.float .f32 rc) := by simp [go_sem, hcc, hff, z0, z1, z2, hc1, hf1, y10, y11, y12, hc2, hf2, y20, y21, y22, hc3, hf3, y30, y31, y32, hc4, hf4, y40, y41, y42]
  have e0 : w4.cell? ⟨w.heap.size + 1, 0, none⟩ = some (.float .f32 p1) := by simp [go_sem, hcc, hff, z0, z1, z2, hc1, hf1, y10, y11, y12, hc2, hf2, y20, y21, y22, hc3, hf3, y30, y31, y32, hc4, hf4, y40, y41, y42, World.cell?_setCell_same _ _ _ a1]
  have e1 : w4.cell? ⟨w.heap.size + 1, 1, none⟩ = some (.float .f32 p2) := by simp [go_sem, hcc, hff, z0, z1, z2, hc1, hf1, y10, y11, y12, hc2, hf2, y20, y21, y22, hc3, hf3, y30, y31, y32, hc4, hf4, y40, y41, y42, World.cell?_setCell_same _ _ _ a2]
  have e2 : w4.cell? ⟨w.heap.size + 1, 2, none⟩ = some (.float .f32 p3) := by simp [go_sem, hcc, hff, z0, z1, z2, hc1, hf1, y10, y11, y12, hc2, hf2, y20, y21, y22, hc3, hf3, y30, y31, y32, hc4, hf4, y40, y41, y42, World.cell?_setCell_same _ _ _ a3]
  have e3 : w4.cell? ⟨w.heap.size + 1, 3, none⟩ = some (.float .f32 rd) := by simp [go_sem, hcc, hff, z0, z1, z2, hc1, hf1, y10, y11, y12, hc2, hf2, y20, y21, y22, hc3, hf3, y30, y31, y32, hc4, hf4, y40, y41, y42]
  have g0 : w4.cell? ⟨w.heap.size + 1 + 1, 0, none⟩ = some (.float .f32 0) := by simp [go_sem, hcc, hff, z0, z1, z2, hc1, hf1, y10, y11, y12, hc2, hf2, y20, y21, y22, hc3, hf3, y30, y31, y32, hc4, hf4, y40, y41, y42]
  have g1 : w4.cell? ⟨w.heap.size + 1 + 1, 1, none⟩ = some (.float .f32 0) := by simp [go_sem, hcc, hff, z0, z1, z2, hc1, hf1, y10, y11, y12, hc2, hf2, y20, y21, y22, hc3, hf3, y30, y31, y32, hc4, hf4, y40, y41, y42]
  have g2 : w4.cell? ⟨w.heap.size + 1 + 1, 2, none⟩ = some (.float .f32 0) := by simp [go_sem, hcc, hff, z0, z1, z2, hc1, hf1, y10, y11, y12, hc2, hf2, y20, y21, y22, hc3, hf3, y30, y31, y32, hc4, hf4, y40, y41, y42]
  have g3 : w4.cell? ⟨w.heap.size + 1 + 1, 3, none⟩ = some (.float .f32 0) := by simp [go_sem, hcc, hff, z0, z1, z2, hc1, hf1, y10, y11, y12, hc2, hf2, y20, y21, y22, hc3, hf3, y30, y31, y32, hc4, hf4, y40, y41, y42]
  have gf : ∀ i, w4.frozen? ⟨w.heap.size + 1 + 1, i, none⟩ = false := fun i => by simp [go_sem, hcc, hff, z0, z1, z2, hc1, hf1, y10, y11, y12, hc2, hf2, y20, y21, y22, hc3, hf3, y30, y31, y32, hc4, hf4, y40, y41, y42]
  clear hc1 hc2 hc3 hc4 hf1 hf2 hf3 hf4 hcc hff
  refine Lo.wp_loose_tail [] 3 (by kernel_rfl) (by kernel_rfl) ?_
  simp only [List.take_succ_cons, List.take_zero, List.drop_succ_cons, List.drop_zero]
  repeat (first
    | (refine Lo.wpL_move rfl _ (.inl rfl) (by decide) ?_; simp only [Act.put, List.setIfInBounds_toArray, List.set_cons_succ, List.set_cons_zero])
    | (refine Lo.wpL_move rfl _ (.inr rfl) (by decide) ?_; simp only [Act.put, List.setIfInBounds_toArray, List.set_cons_succ, List.set_cons_zero])
    | (refine Lo.wpL_fop rfl _ _ _ _ rfl rfl (by decide) _ _ _ _ _ rfl rfl (by assumption) (by assumption) ?_; intro rr hrr; simp only [Act.put, List.setIfInBounds_toArray, List.set_cons_succ, List.set_cons_zero])
    | (refine Lo.wpL_wide rfl _ _ _ rfl (by decide) _ _ rfl (by kernel_rfl) (by kernel_rfl) (by assumption) ?_; intro rr hrr; simp only [Act.put, List.setIfInBounds_toArray, List.set_cons_succ, List.set_cons_zero])
    | (refine Lo.wpL_quiet rfl (by decide) (fun K hK => ?_); go_big_quiet_op; (refine hK _ ?_; clear hK K)))
  refine Lo.wpL_nil ?_
  refine Lo.after_nil ?_; intro nq
  go_wp2
  exact bodyPost_ret (v := .tuple #[.float .f32 y, .agg #[.float .f32 p1, .float .f32 p2, .float .f32 p3, .float .f32 p4]]) (by simp [results, Try.results22, go_sem, g0, g1, g2, g3]) rfl
    ⟨y, ⟨p1, p2, p3, p4⟩, rfl, hy, ⟨hp1, hp2, hp3, hp4⟩, by (repeat (first | (with_reducible refine Fl.sinDrew ?_) | (with_reducible refine World.Since.drew ?_) | (with_reducible refine Fl.sinSet ?_ ?_; rotate_left) | (with_reducible refine Fl.sinAlloc ?_ ?_; rotate_left) | with_reducible exact World.Since.refl _ _ | with_reducible assumption | (with_reducible refine Fl.sinStep (by with_reducible assumption) ?_))); all_goals (first | omega | (simp; done) | (simp; omega) | (simp [go_sem]; done) | (simp [go_sem]; omega))⟩

set_option maxHeartbeats 4000000 in
set_option maxRecDepth 100000 in
theorem nextTur_any (fu : Bool) (f : FilN) (m : MemN) (x : Nat) (F : Fil) (M : Mem) (X : O) (w : World) (hF : FvF f F) (hM : FvM m M) (hx : Hid (Fv .f32 x X)) :
    Calls Try.prog 22 #[setV f fu, .func (.func 20) #[] #[], m.val, .float .f32 x] w (StepPost w (stepY 1 fu F M X) (flM fu (rawM 1 fu F M X))) := by
  have hfl := flushed_any f fu
  have hst := implTur_any fu f m x F M X
  obtain ⟨b0, b1, b2, a1, a2⟩ := f
  obtain ⟨ma, mb, mc, md⟩ := m
  unfold MemN.val at *
  unfold setV at *
  have HF := Lib.hid hfl; clear hfl
  have HT := Lib.hid hst; clear hst
  have HX := Lib.hid hx; clear hx
  have HFF := Lib.hid hF; clear hF
  have HMM := Lib.hid hM; clear hM
  go_enter Try.func22, Try.ntmps22
  go_wp2_with (go_at_call 20; refine (HT.out _ HFF.out HMM.out HX.out).mono ?_; rintro e w' ⟨y, ⟨ra, rb, rc, rd⟩, rfl, hy, hm, hs⟩; have z0 : w.heap.size < w'.heap.size := (by have hsz := hs.size; simp only [Fl.size_drewN, Go.Deep.nblk_alloc, Go.Deep.nblk_setCell] at hsz; omega); have z1 : w.heap.size + 1 < w'.heap.size := (by have hsz := hs.size; simp only [Fl.size_drewN, Go.Deep.nblk_alloc, Go.Deep.nblk_setCell] at hsz; omega); have z2 : w.heap.size + 1 + 1 < w'.heap.size := (by have hsz := hs.size; simp only [Fl.size_drewN, Go.Deep.nblk_alloc, Go.Deep.nblk_setCell] at hsz; omega); obtain ⟨hcc, hff⟩ := Fl.sinCell hs; have HS := Lib.hid hs; clear hs; have HMV := Lib.hid hm; clear hm; unfold MemN.val)
  have i0 : ∀ w, (Instr.index 54 (.agg #[.float .f32 ra, .float .f32 rb, .float .f32 rc, .float .f32 rd]) (.int .i64 0)).run Try.prog w = .ok (.float .f32 ra) w := fun _ => by kernel_rfl
  have i1 : ∀ w, (Instr.index 54 (.agg #[.float .f32 ra, .float .f32 rb, .float .f32 rc, .float .f32 rd]) (.int .i64 1)).run Try.prog w = .ok (.float .f32 rb) w := fun _ => by kernel_rfl
  have i2 : ∀ w, (Instr.index 54 (.agg #[.float .f32 ra, .float .f32 rb, .float .f32 rc, .float .f32 rd]) (.int .i64 2)).run Try.prog w = .ok (.float .f32 rc) w := fun _ => by kernel_rfl
  have i3 : ∀ w, (Instr.index 54 (.agg #[.float .f32 ra, .float .f32 rb, .float .f32 rc, .float .f32 rd]) (.int .i64 3)).run Try.prog w = .ok (.float .f32 rd) w := fun _ => by kernel_rfl
  refine wp_loop_rounds 5 ?_
  rw [rounds_succ]
  go_wp2_with (go_at_call 23; refine (HF.out _ _ _ HMV.out.a).mono ?_; rintro e w1 ⟨p1, rfl, hp1, hs⟩; have y10 : w.heap.size < w1.heap.size := (by have hsz := hs.size; simp only [Fl.size_drewN, Go.Deep.nblk_alloc, Go.Deep.nblk_setCell] at hsz; omega); have y11 : w.heap.size + 1 < w1.heap.size := (by have hsz := hs.size; simp only [Fl.size_drewN, Go.Deep.nblk_alloc, Go.Deep.nblk_setCell] at hsz; omega); have y12 : w.heap.size + 1 + 1 < w1.heap.size := (by have hsz := hs.size; simp only [Fl.size_drewN, Go.Deep.nblk_alloc, Go.Deep.nblk_setCell] at hsz; omega); obtain ⟨hc1, hf1⟩ := Fl.sinCell hs; have S1 := Lib.hid hs; clear hs)
  rw [rounds_succ]
  go_wp2_with (go_at_call 23; refine (HF.out _ _ _ HMV.out.b).mono ?_; rintro e w2 ⟨p2, rfl, hp2, hs⟩; have y20 : w.heap.size < w2.heap.size := (by have hsz := hs.size; simp only [Fl.size_drewN, Go.Deep.nblk_alloc, Go.Deep.nblk_setCell] at hsz; omega); have y21 : w.heap.size + 1 < w2.heap.size := (by have hsz := hs.size; simp only [Fl.size_drewN, Go.Deep.nblk_alloc, Go.Deep.nblk_setCell] at hsz; omega); have y22 : w.heap.size + 1 + 1 < w2.heap.size := (by have hsz := hs.size; simp only [Fl.size_drewN, Go.Deep.nblk_alloc, Go.Deep.nblk_setCell] at hsz; omega); obtain ⟨hc2, hf2⟩ := Fl.sinCell hs; have S2 := Lib.hid hs; clear hs)
  rw [rounds_succ]
  go_wp2_with (go_at_call 23; refine (HF.out _ _ _ HMV.out.c).mono ?_; rintro e w3 ⟨p3, rfl, hp3, hs⟩; have y30 : w.heap.size < w3.heap.size := (by have hsz := hs.size; simp only [Fl.size_drewN, Go.Deep.nblk_alloc, Go.Deep.nblk_setCell] at hsz; omega); have y31 : w.heap.size + 1 < w3.heap.size := (by have hsz := hs.size; simp only [Fl.size_drewN, Go.Deep.nblk_alloc, Go.Deep.nblk_setCell] at hsz; omega); have y32 : w.heap.size + 1 + 1 < w3.heap.size := (by have hsz := hs.size; simp only [Fl.size_drewN, Go.Deep.nblk_alloc, Go.Deep.nblk_setCell] at hsz; omega); obtain ⟨hc3, hf3⟩ := Fl.sinCell hs; have S3 := Lib.hid hs; clear hs)
  rw [rounds_succ]
  go_wp2_with (go_at_call 23; refine (HF.out _ _ _ HMV.out.d).mono ?_; rintro e w4 ⟨p4, rfl, hp4, hs⟩; have y40 : w.heap.size < w4.heap.size := (by have hsz := hs.size; simp only [Fl.size_drewN, Go.Deep.nblk_alloc, Go.Deep.nblk_setCell] at hsz; omega); have y41 : w.heap.size + 1 < w4.heap.size := (by have hsz := hs.size; simp only [Fl.size_drewN, Go.Deep.nblk_alloc, Go.Deep.nblk_setCell] at hsz; omega); have y42 : w.heap.size + 1 + 1 < w4.heap.size := (by have hsz := hs.size; simp only [Fl.size_drewN, Go.Deep.nblk_alloc, Go.Deep.nblk_setCell] at hsz; omega); obtain ⟨hc4, hf4⟩ := Fl.sinCell hs; have S4 := Lib.hid hs; clear hs)
  rw [rounds_succ]
  go_wp2
  have a1 : w1.cell? ⟨w.heap.size + 1, 0, none⟩ = some (.float .f32 ra) := by simp [go_sem, hcc, hff, z0, z1, z2, hc1, hf1, y10, y11, y12, hc2, hf2, y20, y21, y22, hc3, hf3, y30, y31, y32, hc4, hf4, y40, y41, y42]
  have a2 : w2.cell? ⟨w.heap.size + 1, 1, none⟩ = some (.float .f32 rb) := by simp [go_sem, hcc, hff, z0, z1, z2, hc1, hf1, y10, y11, y12, hc2, hf2, y20, y21, y22, hc3, hf3, y30, y31, y32, hc4, hf4, y40, y41, y42]
  have a3 : w3.cell? ⟨w.heap.size + 1, 2, none⟩ = some (.float .f32 rc) := by simp [go_sem, hcc, hff, z0, z1, z2, hc1, hf1, y10, y11, y12, hc2, hf2, y20, y21, y22, hc3, hf3, y30, y31, y32, hc4, hf4, y40, y41, y42]
  have e0 : w4.cell? ⟨w.heap.size + 1, 0, none⟩ = some (.float .f32 p1) := by simp [go_sem, hcc, hff, z0, z1, z2, hc1, hf1, y10, y11, y12, hc2, hf2, y20, y21, y22, hc3, hf3, y30, y31, y32, hc4, hf4, y40, y41, y42, World.cell?_setCell_same _ _ _ a1]
  have e1 : w4.cell? ⟨w.heap.size + 1, 1, none⟩ = some (.float .f32 p2) := by simp [go_sem, hcc, hff, z0, z1, z2, hc1, hf1, y10, y11, y12, hc2, hf2, y20, y21, y22, hc3, hf3, y30, y31, y32, hc4, hf4, y40, y41, y42, World.cell?_setCell_same _ _ _ a2]
  have e2 : w4.cell? ⟨w.heap.size + 1, 2, none⟩ = some (.float .f32 p3) := by simp [go_sem, hcc, hff, z0, z1, z2, hc1, hf1, y10, y11, y12, hc2, hf2, y20, y21, y22, hc3, hf3, y30, y31, y32, hc4, hf4, y40, y41, y42, World.cell?_setCell_same _ _ _ a3]
  have e3 : w4.cell? ⟨w.heap.size + 1, 3, none⟩ = some (.float .f32 rd) := by simp [go_sem, hcc, hff, z0, z1, z2, hc1, hf1, y10, y11, y12, hc2, hf2, y20, y21, y22, hc3, hf3, y30, y31, y32, hc4, hf4, y40, y41, y42]
  have g0 : w4.cell? ⟨w.heap.size + 1 + 1, 0, none⟩ = some (.float .f32 0) := by simp [go_sem, hcc, hff, z0, z1, z2, hc1, hf1, y10, y11, y12, hc2, hf2, y20, y21, y22, hc3, hf3, y30, y31, y32, hc4, hf4, y40, y41, y42]
  have g1 : w4.cell? ⟨w.heap.size + 1 + 1, 1, none⟩ = some (.float .f32 0) := by simp [go_sem, hcc, hff, z0, z1, z2, hc1, hf1, y10, y11, y12, hc2, hf2, y20, y21, y22, hc3, hf3, y30, y31, y32, hc4, hf4, y40, y41, y42]
  have g2 : w4.cell? ⟨w.heap.size + 1 + 1, 2, none⟩ = some (.float .f32 0) := by simp [go_sem, hcc, hff, z0, z1, z2, hc1, hf1, y10, y11, y12, hc2, hf2, y20, y21, y22, hc3, hf3, y30, y31, y32, hc4, hf4, y40, y41, y42]
  have g3 : w4.cell? ⟨w.heap.size + 1 + 1, 3, none⟩ = some (.float .f32 0) := by simp [go_sem, hcc, hff, z0, z1, z2, hc1, hf1, y10, y11, y12, hc2, hf2, y20, y21, y22, hc3, hf3, y30, y31, y32, hc4, hf4, y40, y41, y42]
  have gf : ∀ i, w4.frozen? ⟨w.heap.size + 1 + 1, i, none⟩ = false := fun i => by simp [go_sem, hcc, hff, z0, z1, z2, hc1, hf1, y10, y11, y12, hc2, hf2, y20, y21, y22, hc3, hf3, y30, y31, y32, hc4, hf4, y40, y41, y42]
  clear hc1 hc2 hc3 hc4 hf1 hf2 hf3 hf4 hcc hff
  refine Lo.wp_loose_tail [] 3 (by kernel_rfl) (by kernel_rfl) ?_
  simp only [List.take_succ_cons, List.take_zero, List.drop_succ_cons, List.drop_zero]
  repeat (first
    | (refine Lo.wpL_move rfl _ (.inl rfl) (by decide) ?_; simp only [Act.put, List.setIfInBounds_toArray, List.set_cons_succ, List.set_cons_zero])
    | (refine Lo.wpL_move rfl _ (.inr rfl) (by decide) ?_; simp only [Act.put, List.setIfInBounds_toArray, List.set_cons_succ, List.set_cons_zero])
    | (refine Lo.wpL_fop rfl _ _ _ _ rfl rfl (by decide) _ _ _ _ _ rfl rfl (by assumption) (by assumption) ?_; intro rr hrr; simp only [Act.put, List.setIfInBounds_toArray, List.set_cons_succ, List.set_cons_zero])
    | (refine Lo.wpL_wide rfl _ _ _ rfl (by decide) _ _ rfl (by kernel_rfl) (by kernel_rfl) (by assumption) ?_; intro rr hrr; simp only [Act.put, List.setIfInBounds_toArray, List.set_cons_succ, List.set_cons_zero])
    | (refine Lo.wpL_quiet rfl (by decide) (fun K hK => ?_); go_big_quiet_op; (refine hK _ ?_; clear hK K)))
  refine Lo.wpL_nil ?_
  refine Lo.after_nil ?_; intro nq
  go_wp2
  exact bodyPost_ret (v := .tuple #[.float .f32 y, .agg #[.float .f32 p1, .float .f32 p2, .float .f32 p3, .float .f32 p4]]) (by simp [results, Try.results22, go_sem, g0, g1, g2, g3]) rfl
    ⟨y, ⟨p1, p2, p3, p4⟩, rfl, hy, ⟨hp1, hp2, hp3, hp4⟩, by (repeat (first | (with_reducible refine Fl.sinDrew ?_) | (with_reducible refine World.Since.drew ?_) | (with_reducible refine Fl.sinSet ?_ ?_; rotate_left) | (with_reducible refine Fl.sinAlloc ?_ ?_; rotate_left) | with_reducible exact World.Since.refl _ _ | with_reducible assumption | (with_reducible refine Fl.sinStep (by with_reducible assumption) ?_))); all_goals (first | omega | (simp; done) | (simp; omega) | (simp [go_sem]; done) | (simp [go_sem]; omega))⟩

set_option maxHeartbeats 4000000 in
set_option maxRecDepth 100000 in
theorem nextCan_any (fu : Bool) (f : FilN) (m : MemN) (x : Nat) (F : Fil) (M : Mem) (X : O) (w : World) (hF : FvF f F) (hM : FvM m M) (hx : Hid (Fv .f32 x X)) :
    Calls Try.prog 22 #[setV f fu, .func (.func 21) #[] #[], m.val, .float .f32 x] w (StepPost w (stepY 2 fu F M X) (flM fu (rawM 2 fu F M X))) := by
  have hfl := flushed_any f fu
  have hst := implCan_any fu f m x F M X
  obtain ⟨b0, b1, b2, a1, a2⟩ := f
  obtain ⟨ma, mb, mc, md⟩ := m
  unfold MemN.val at *
  unfold setV at *
  have HF := Lib.hid hfl; clear hfl
  have HT := Lib.hid hst; clear hst
  have HX := Lib.hid hx; clear hx
  have HFF := Lib.hid hF; clear hF
  have HMM := Lib.hid hM; clear hM
  go_enter Try.func22, Try.ntmps22
  go_wp2_with (go_at_call 21; refine (HT.out _ HFF.out HMM.out HX.out).mono ?_; rintro e w' ⟨y, ⟨ra, rb, rc, rd⟩, rfl, hy, hm, hs⟩; have z0 : w.heap.size < w'.heap.size := (by have hsz := hs.size; simp only [Fl.size_drewN, Go.Deep.nblk_alloc, Go.Deep.nblk_setCell] at hsz; omega); have z1 : w.heap.size + 1 < w'.heap.size := (by have hsz := hs.size; simp only [Fl.size_drewN, Go.Deep.nblk_alloc, Go.Deep.nblk_setCell] at hsz; omega); have z2 : w.heap.size + 1 + 1 < w'.heap.size := (by have hsz := hs.size; simp only [Fl.size_drewN, Go.Deep.nblk_alloc, Go.Deep.nblk_setCell] at hsz; omega); obtain ⟨hcc, hff⟩ := Fl.sinCell hs; have HS := Lib.hid hs; clear hs; have HMV := Lib.hid hm; clear hm; unfold MemN.val)
  have i0 : ∀ w, (Instr.index 54 (.agg #[.float .f32 ra, .float .f32 rb, .float .f32 rc, .float .f32 rd]) (.int .i64 0)).run Try.prog w = .ok (.float .f32 ra) w := fun _ => by kernel_rfl
  have i1 : ∀ w, (Instr.index 54 (.agg #[.float .f32 ra, .float .f32 rb, .float .f32 rc, .float .f32 rd]) (.int .i64 1)).run Try.prog w = .ok (.float .f32 rb) w := fun _ => by kernel_rfl
  have i2 : ∀ w, (Instr.index 54 (.agg #[.float .f32 ra, .float .f32 rb, .float .f32 rc, .float .f32 rd]) (.int .i64 2)).run Try.prog w = .ok (.float .f32 rc) w := fun _ => by kernel_rfl
  have i3 : ∀ w, (Instr.index 54 (.agg #[.float .f32 ra, .float .f32 rb, .float .f32 rc, .float .f32 rd]) (.int .i64 3)).run Try.prog w = .ok (.float .f32 rd) w := fun _ => by kernel_rfl
  refine wp_loop_rounds 5 ?_
  rw [rounds_succ]
  go_wp2_with (go_at_call 23; refine (HF.out _ _ _ HMV.out.a).mono ?_; rintro e w1 ⟨p1, rfl, hp1, hs⟩; have y10 : w.heap.size < w1.heap.size := (by have hsz := hs.size; simp only [Fl.size_drewN, Go.Deep.nblk_alloc, Go.Deep.nblk_setCell] at hsz; omega); have y11 : w.heap.size + 1 < w1.heap.size := (by have hsz := hs.size; simp only [Fl.size_drewN, Go.Deep.nblk_alloc, Go.Deep.nblk_setCell] at hsz; omega); have y12 : w.heap.size + 1 + 1 < w1.heap.size := (by have hsz := hs.size; simp only [Fl.size_drewN, Go.Deep.nblk_alloc, Go.Deep.nblk_setCell] at hsz; omega); obtain ⟨hc1, hf1⟩ := Fl.sinCell hs; have S1 := Lib.hid hs; clear hs)
  rw [rounds_succ]
  go_wp2_with (go_at_call 23; refine (HF.out _ _ _ HMV.out.b).mono ?_; rintro e w2 ⟨p2, rfl, hp2, hs⟩; have y20 : w.heap.size < w2.heap.size := (by have hsz := hs.size; simp only [Fl.size_drewN, Go.Deep.nblk_alloc, Go.Deep.nblk_setCell] at hsz; omega); have y21 : w.heap.size + 1 < w2.heap.size := (by have hsz := hs.size; simp only [Fl.size_drewN, Go.Deep.nblk_alloc, Go.Deep.nblk_setCell] at hsz; omega); have y22 : w.heap.size + 1 + 1 < w2.heap.size := (by have hsz := hs.size; simp only [Fl.size_drewN, Go.Deep.nblk_alloc, Go.Deep.nblk_setCell] at hsz; omega); obtain ⟨hc2, hf2⟩ := Fl.sinCell hs; have S2 := Lib.hid hs; clear hs)
  rw [rounds_succ]
  go_wp2_with (go_at_call 23; refine (HF.out _ _ _ HMV.out.c).mono ?_; rintro e w3 ⟨p3, rfl, hp3, hs⟩; have y30 : w.heap.size < w3.heap.size := (by have hsz := hs.size; simp only [Fl.size_drewN, Go.Deep.nblk_alloc, Go.Deep.nblk_setCell] at hsz; omega); have y31 : w.heap.size + 1 < w3.heap.size := (by have hsz := hs.size; simp only [Fl.size_drewN, Go.Deep.nblk_alloc, Go.Deep.nblk_setCell] at hsz; omega); have y32 : w.heap.size + 1 + 1 < w3.heap.size := (by have hsz := hs.size; simp only [Fl.size_drewN, Go.Deep.nblk_alloc, Go.Deep.nblk_setCell] at hsz; omega); obtain ⟨hc3, hf3⟩ := Fl.sinCell hs; have S3 := Lib.hid hs; clear hs)
  rw [rounds_succ]
  go_wp2_with (go_at_call 23; refine (HF.out _ _ _ HMV.out.d).mono ?_; rintro e w4 ⟨p4, rfl, hp4, hs⟩; have y40 : w.heap.size < w4.heap.size := (by have hsz := hs.size; simp only [Fl.size_drewN, Go.Deep.nblk_alloc, Go.Deep.nblk_setCell] at hsz; omega); have y41 : w.heap.size + 1 < w4.heap.size := (by have hsz := hs.size; simp only [Fl.size_drewN, Go.Deep.nblk_alloc, Go.Deep.nblk_setCell] at hsz; omega); have y42 : w.heap.size + 1 + 1 < w4.heap.size := (by have hsz := hs.size; simp only [Fl.size_drewN, Go.Deep.nblk_alloc, Go.Deep.nblk_setCell] at hsz; omega); obtain ⟨hc4, hf4⟩ := Fl.sinCell hs; have S4 := Lib.hid hs; clear hs)
  rw [rounds_succ]
  go_wp2
  have a1 : w1.cell? ⟨w.heap.size + 1, 0, none⟩ = some (.float .f32 ra) := by simp [go_sem, hcc, hff, z0, z1, z2, hc1, hf1, y10, y11, y12, hc2, hf2, y20, y21, y22, hc3, hf3, y30, y31, y32, hc4, hf4, y40, y41, y42]
  have a2 : w2.cell? ⟨w.heap.size + 1, 1, none⟩ = some (.float .f32 rb) := by simp [go_sem, hcc, hff, z0, z1, z2, hc1, hf1, y10, y11, y12, hc2, hf2, y20, y21, y22, hc3, hf3, y30, y31, y32, hc4, hf4, y40, y41, y42]
  have a3 : w3.cell? ⟨w.heap.size + 1, 2, none⟩ = some (.float .f32 rc) := by simp [go_sem, hcc, hff, z0, z1, z2, hc1, hf1, y10, y11, y12, hc2, hf2, y20, y21, y22, hc3, hf3, y30, y31, y32, hc4, hf4, y40, y41, y42]
  have e0 : w4.cell? ⟨w.heap.size + 1, 0, none⟩ = some (.float .f32 p1) := by simp [go_sem, hcc, hff, z0, z1, z2, hc1, hf1, y10, y11, y12, hc2, hf2, y20, y21, y22, hc3, hf3, y30, y31, y32, hc4, hf4, y40, y41, y42, World.cell?_setCell_same _ _ _ a1]
  have e1 : w4.cell? ⟨w.heap.size + 1, 1, none⟩ = some (.float .f32 p2) := by simp [go_sem, hcc, hff, z0, z1, z2, hc1, hf1, y10, y11, y12, hc2, hf2, y20, y21, y22, hc3, hf3, y30, y31, y32, hc4, hf4, y40, y41, y42, World.cell?_setCell_same _ _ _ a2]
  have e2 : w4.cell? ⟨w.heap.size + 1, 2, none⟩ = some (.float .f32 p3) := by simp [go_sem, hcc, hff, z0, z1, z2, hc1, hf1, y10, y11, y12, hc2, hf2, y20, y21, y22, hc3, hf3, y30, y31, y32, hc4, hf4, y40, y41, y42, World.cell?_setCell_same _ _ _ a3]
  have e3 : w4.cell? ⟨w.heap.size + 1, 3, none⟩ = some (.float .f32 rd) := by simp [go_sem, hcc, hff, z0, z1, z2, hc1, hf1, y10, y11, y12, hc2, hf2, y20, y21, y22, hc3, hf3, y30, y31, y32, hc4, hf4, y40, y41, y42]
  have g0 : w4.cell? ⟨w.heap.size + 1 + 1, 0, none⟩ = some (.float .f32 0) := by simp [go_sem, hcc, hff, z0, z1, z2, hc1, hf1, y10, y11, y12, hc2, hf2, y20, y21, y22, hc3, hf3, y30, y31, y32, hc4, hf4, y40, y41, y42]
  have g1 : w4.cell? ⟨w.heap.size + 1 + 1, 1, none⟩ = some (.float .f32 0) := by simp [go_sem, hcc, hff, z0, z1, z2, hc1, hf1, y10, y11, y12, hc2, hf2, y20, y21, y22, hc3, hf3, y30, y31, y32, hc4, hf4, y40, y41, y42]
  have g2 : w4.cell? ⟨w.heap.size + 1 + 1, 2, none⟩ = some (.float .f32 0) := by simp [go_sem, hcc, hff, z0, z1, z2, hc1, hf1, y10, y11, y12, hc2, hf2, y20, y21, y22, hc3, hf3, y30, y31, y32, hc4, hf4, y40, y41, y42]
  have g3 : w4.cell? ⟨w.heap.size + 1 + 1, 3, none⟩ = some (.float .f32 0) := by simp [go_sem, hcc, hff, z0, z1, z2, hc1, hf1, y10, y11, y12, hc2, hf2, y20, y21, y22, hc3, hf3, y30, y31, y32, hc4, hf4, y40, y41, y42]
  have gf : ∀ i, w4.frozen? ⟨w.heap.size + 1 + 1, i, none⟩ = false := fun i => by simp [go_sem, hcc, hff, z0, z1, z2, hc1, hf1, y10, y11, y12, hc2, hf2, y20, y21, y22, hc3, hf3, y30, y31, y32, hc4, hf4, y40, y41, y42]
  clear hc1 hc2 hc3 hc4 hf1 hf2 hf3 hf4 hcc hff
  refine Lo.wp_loose_tail [] 3 (by kernel_rfl) (by kernel_rfl) ?_
  simp only [List.take_succ_cons, List.take_zero, List.drop_succ_cons, List.drop_zero]
  repeat (first
    | (refine Lo.wpL_move rfl _ (.inl rfl) (by decide) ?_; simp only [Act.put, List.setIfInBounds_toArray, List.set_cons_succ, List.set_cons_zero])
    | (refine Lo.wpL_move rfl _ (.inr rfl) (by decide) ?_; simp only [Act.put, List.setIfInBounds_toArray, List.set_cons_succ, List.set_cons_zero])
    | (refine Lo.wpL_fop rfl _ _ _ _ rfl rfl (by decide) _ _ _ _ _ rfl rfl (by assumption) (by assumption) ?_; intro rr hrr; simp only [Act.put, List.setIfInBounds_toArray, List.set_cons_succ, List.set_cons_zero])
    | (refine Lo.wpL_wide rfl _ _ _ rfl (by decide) _ _ rfl (by kernel_rfl) (by kernel_rfl) (by assumption) ?_; intro rr hrr; simp only [Act.put, List.setIfInBounds_toArray, List.set_cons_succ, List.set_cons_zero])
    | (refine Lo.wpL_quiet rfl (by decide) (fun K hK => ?_); go_big_quiet_op; (refine hK _ ?_; clear hK K)))
  refine Lo.wpL_nil ?_
  refine Lo.after_nil ?_; intro nq
  go_wp2
  exact bodyPost_ret (v := .tuple #[.float .f32 y, .agg #[.float .f32 p1, .float .f32 p2, .float .f32 p3, .float .f32 p4]]) (by simp [results, Try.results22, go_sem, g0, g1, g2, g3]) rfl
    ⟨y, ⟨p1, p2, p3, p4⟩, rfl, hy, ⟨hp1, hp2, hp3, hp4⟩, by (repeat (first | (with_reducible refine Fl.sinDrew ?_) | (with_reducible refine World.Since.drew ?_) | (with_reducible refine Fl.sinSet ?_ ?_; rotate_left) | (with_reducible refine Fl.sinAlloc ?_ ?_; rotate_left) | with_reducible exact World.Since.refl _ _ | with_reducible assumption | (with_reducible refine Fl.sinStep (by with_reducible assumption) ?_))); all_goals (first | omega | (simp; done) | (simp; omega) | (simp [go_sem]; done) | (simp [go_sem]; omega))⟩


theorem stepM_raw (k : Nat) (fu : Bool) (F : Fil) (M : Mem) (X : O) : stepM k fu F M X = flM fu (rawM k fu F M X) := by
  match k with
  | 0 => rfl
  | 1 => rfl
  | n + 2 => rfl

set_option maxRecDepth 100000 in
theorem cellsOf_any (m : MemN) (w : World) :
    Calls Try.prog 17 #[m.val] w fun e w' => e = .returned m.val ∧ w.Since w.heap.size w' := by
  obtain ⟨ma, mb, mc, md⟩ := m
  unfold MemN.val
  go_enter Try.func17, Try.ntmps17
  go_wp2
  exact bodyPost_ret (v := .agg #[.float .f32 ma, .float .f32 mb, .float .f32 mc, .float .f32 md]) (by simp [results, Try.results17, go_sem]) rfl ⟨rfl, by (repeat (first | (with_reducible refine Fl.sinDrew ?_) | (with_reducible refine World.Since.drew ?_) | (with_reducible refine Fl.sinSet ?_ ?_; rotate_left) | (with_reducible refine Fl.sinAlloc ?_ ?_; rotate_left) | with_reducible exact World.Since.refl _ _ | with_reducible assumption | (with_reducible refine Fl.sinStep (by with_reducible assumption) ?_))); all_goals (first | omega | (simp; done) | (simp; omega) | (simp [go_sem]; done) | (simp [go_sem]; omega))⟩

set_option maxRecDepth 100000 in
theorem memory_any (m : MemN) (w : World) :
    Calls Try.prog 18 #[m.val] w fun e w' => e = .returned m.val ∧ w.Since w.heap.size w' := by
  obtain ⟨ma, mb, mc, md⟩ := m
  unfold MemN.val
  go_enter Try.func18, Try.ntmps18
  go_wp2
  exact bodyPost_ret (v := .agg #[.float .f32 ma, .float .f32 mb, .float .f32 mc, .float .f32 md]) (by simp [results, Try.results18, go_sem]) rfl ⟨rfl, by (repeat (first | (with_reducible refine Fl.sinDrew ?_) | (with_reducible refine World.Since.drew ?_) | (with_reducible refine Fl.sinSet ?_ ?_; rotate_left) | (with_reducible refine Fl.sinAlloc ?_ ?_; rotate_left) | with_reducible exact World.Since.refl _ _ | with_reducible assumption | (with_reducible refine Fl.sinStep (by with_reducible assumption) ?_))); all_goals (first | omega | (simp; done) | (simp; omega) | (simp [go_sem]; done) | (simp [go_sem]; omega))⟩

end Go.Proofs.Ytbhigpfpnbdilaa

/- A filter's step at the face: the model's, the program's, the law. -/
set_option linter.unusedVariables false
set_option linter.unusedSimpArgs false
namespace Go.Proofs.Ytbhigpfpnbdilaa
open Fl Go.RowKit
def FSPost (w : World) (ok : Bool) (Y : O) (M : Mem) (e : Ending) (w' : World) : Prop :=
  ∃ (y : Nat) (m : MemN), e = .returned (.tuple #[.float .f32 y, m.val, .bool ok]) ∧ Hid (Fv .f32 y Y) ∧ FvM m M ∧ w.Since w.heap.size w'
@[go_sem] theorem MemN.val_mk (a b c d : Nat) : MemN.val ⟨a, b, c, d⟩ = .agg #[.float .f32 a, .float .f32 b, .float .f32 c, .float .f32 d] := rfl
theorem sinUD {w v : World} (h : w.drew.Since w.drew.heap.size v) : w.Since w.heap.size v := ⟨h.os, h.tape, h.output, h.size, h.block⟩
def noM : Mem := ⟨some 0, some 0, some 0, some 0⟩
theorem fvNo : FvM ⟨0, 0, 0, 0⟩ noM := ⟨fvZ, fvZ, fvZ, fvZ⟩
theorem stepOf_out (n : Int) (w : World) (h : inB n 0 2 = false) : Calls Try.prog 13 #[.int .i64 n] w fun e w' => e = .returned (.tuple #[.nilFunc, .bool false]) ∧ w = w' := by
  have h0 : (n == 0) = false := by rw [beq_eq_false_iff_ne]; rintro rfl; exact absurd h (by decide)
  have h1 : (n == 1) = false := by rw [beq_eq_false_iff_ne]; rintro rfl; exact absurd h (by decide)
  have h2 : (n == 2) = false := by rw [beq_eq_false_iff_ne]; rintro rfl; exact absurd h (by decide)
  clear h
  go_enter Try.func13, Try.ntmps13
  go_wp2
  go_ret2
  exact ⟨rfl, rfl⟩
theorem stepOf_Dir (w : World) : Calls Try.prog 13 #[.int .i64 0] w fun e w' => e = .returned (.tuple #[.func (.func 19) #[] #[], .bool true]) ∧ w = w' := by
  go_enter Try.func13, Try.ntmps13
  go_wp2
  go_ret2
  exact ⟨rfl, rfl⟩
theorem stepOf_Tur (w : World) : Calls Try.prog 13 #[.int .i64 1] w fun e w' => e = .returned (.tuple #[.func (.func 20) #[] #[], .bool true]) ∧ w = w' := by
  go_enter Try.func13, Try.ntmps13
  go_wp2
  go_ret2
  exact ⟨rfl, rfl⟩
theorem stepOf_Can (w : World) : Calls Try.prog 13 #[.int .i64 2] w fun e w' => e = .returned (.tuple #[.func (.func 21) #[] #[], .bool true]) ∧ w = w' := by
  go_enter Try.func13, Try.ntmps13
  go_wp2
  go_ret2
  exact ⟨rfl, rfl⟩
end Go.Proofs.Ytbhigpfpnbdilaa

/- Filters: a filter over samples, the model's. -/
set_option linter.unusedVariables false
set_option linter.unusedSimpArgs false
namespace Go.Proofs.Ytbhigpfpnbdilaa
open Fl Go.RowKit
/-- the memory behind so many samples, and what is made of each -/
def filM (form : Nat) (fu : Bool) (F : Fil) (M : Mem) (X : Nat → O) : Nat → Mem
  | 0 => M
  | k + 1 => stepM form fu F (filM form fu F M X k) (X k)
def filY (form : Nat) (fu : Bool) (F : Fil) (M : Mem) (X : Nat → O) (k : Nat) : O := stepY form fu F (filM form fu F M X k) (X k)
theorem filM_like {form : Nat} {fu : Bool} {F : Fil} {M : Mem} {X Y : Nat → O} {n : Nat} (h : ∀ k, k < n → X k = Y k) : ∀ k, k ≤ n → filM form fu F M X k = filM form fu F M Y k
  | 0, _ => rfl
  | k + 1, hk => by
    unfold filM
    rw [filM_like h k (by omega), h k (by omega)]
theorem filY_like {form : Nat} {fu : Bool} {F : Fil} {M : Mem} {X Y : Nat → O} {n : Nat} (h : ∀ k, k < n → X k = Y k) (k : Nat) (hk : k < n) : filY form fu F M X k = filY form fu F M Y k := by
  unfold filY
  rw [filM_like h k (by omega), h k hk]
theorem filM_cut (form : Nat) (fu : Bool) (F : Fil) (M : Mem) (X : Nat → O) (a : Nat) : ∀ k, filM form fu F (filM form fu F M X a) (fun j => X (a + j)) k = filM form fu F M X (a + k)
  | 0 => rfl
  | k + 1 => by
    show stepM form fu F (filM form fu F (filM form fu F M X a) (fun j => X (a + j)) k) (X (a + k)) = stepM form fu F (filM form fu F M X (a + k)) (X (a + k))
    rw [filM_cut form fu F M X a k]
theorem filY_cut (form : Nat) (fu : Bool) (F : Fil) (M : Mem) (X : Nat → O) (a k : Nat) : filY form fu F (filM form fu F M X a) (fun j => X (a + j)) k = filY form fu F M X (a + k) := by
  unfold filY
  rw [filM_cut]
/-- a list and a memory -/
def PLM (n0 : Nat) (f0 : Nat → O) (M : Mem) (w : World) (e : Ending) (w' : World) : Prop :=
  ∃ (p : Ls) (c : Nat) (m : MemN), e = .returned (.tuple #[.slice p.A p.n c, m.val]) ∧ p.n = n0 ∧ Gs 24 w' w.heap.size p.A p.n p.xs ∧ Are p f0 ∧ FvM m M ∧ w.Since w.heap.size w'
theorem FilAt.since {w w' : World} {g : Nat} {f : FilN} (h : FilAt w g f) (s : w.Since (g + 1) w') : FilAt w' g f :=
  ⟨Nat.lt_of_lt_of_le h.lt s.size, (s.cell (a := ⟨g, 0, none⟩) (by show g < g + 1; omega)).trans h.b0, (s.cell (a := ⟨g, 1, none⟩) (by show g < g + 1; omega)).trans h.b1, (s.cell (a := ⟨g, 2, none⟩) (by show g < g + 1; omega)).trans h.b2, (s.cell (a := ⟨g, 3, none⟩) (by show g < g + 1; omega)).trans h.a1, (s.cell (a := ⟨g, 4, none⟩) (by show g < g + 1; omega)).trans h.a2⟩
theorem Rw.own_lt {lo : Nat} {w : World} {v : Value} {k : Nat} {F : Nat → O} (h : Rw lo w v k F) : ∀ b, v.ownBlock = some b → b < w.heap.size := by
  intro b hb
  obtain ⟨os, h1, _, _⟩ := h
  rcases h1.2 with ⟨rfl, _⟩ | ⟨g, cap, cur, rfl, hg, hb2, _⟩
  · simp [Value.ownBlock] at hb
  · simp [Value.ownBlock] at hb; subst hb; exact (Array.getElem?_eq_some_iff.1 hb2).1
theorem wpList_app1k {ops : Array Oper} {rest : List Oper} {o : Oper} {a : Act} {Q : Exit → Act → World → Prop} {w : World} (hgd : o.guard = none) (s x : Operand)
    (ho : o.op = .call { callee := .builtin .append, args := #[s, x], argTypes := #[28, 28] }) (lo : Nat) (v : Value) (k : Nat) (F : Nat → O) (hs : a.eval s = v) (b r : Nat)
    (hx : a.eval x = .slice (some ⟨b, 0, none⟩) 1 1) (hc : w.cell? ⟨b, 0, none⟩ = some (.float .f32 r)) (hk : k < 1048576) (hlo : lo ≤ w.heap.size) (hr : Hid (Fv .f32 r (F k))) (hR : Rw lo w v k F) (B : Nat) (hB : ∀ b, v.ownBlock = some b → b < B)
    (h : ∀ v' w', Hid (Rw lo w' v' (k + 1) F) → Hid (w.Since lo w') → Hid (∀ i, B ≤ i → i < w.heap.size → w'.heap[i]? = w.heap[i]?) → wpList Try.prog ops Q rest (a.put o.dst v') w') : wpList Try.prog ops Q (o :: rest) a w := by
  obtain ⟨os, h1, h2, h3⟩ := hR
  obtain ⟨i0, hi, hz0, hz1, hz2⟩ := info_parts Try.infoF
  refine wpList_append_own (P := Try.prog) w hgd s x 28 ho lo 24 i0 (.float .f32 0) 1 4 Try.underlying28 hi hz0 hz1 hz2 rfl (by omega) v k (fvl os) hs h1 ⟨b, 0, none⟩ 1 1 [.float .f32 r] hx rfl ?_ ?_ ?_ ?_ hlo ?_
  · intro j u hj
    rcases j with _ | j
    · simp at hj; subst hj; simpa [Addr.add] using hc
    · simp at hj
  · intro u hu; simp at hu; subst hu; rfl
  · unfold maxLen; omega
  · omega
  · intro v' w' hown hg _
    refine h v' w' (Lib.hid ⟨os ++ [r], ?_, h2.snoc hr.out.1, fun j hj => ?_⟩) (Lib.hid ⟨hg.os, hg.tape, hg.output, hg.size, fun i hi => ?_⟩) (Lib.hid fun i h5 h6 => hg.block i h6 fun e => by have := hB i e.symm; omega)
    · rw [← fvl_snoc]; exact hown
    · have hyl : os.length = k := by simpa [fvl] using h1.1
      rw [wd_snoc hyl]
      by_cases e : j < k
      · rw [if_pos e]; exact h3 j e
      · obtain rfl : j = k := by omega
        rw [if_neg e, if_pos rfl]; exact hr.out.2
    · refine hg.block i (by omega) fun e => ?_
      have := own_lo h1 i e.symm
      omega
/-- a memory's block -/
def MemB (T : TypeId) (w : World) (b : Nat) (m : MemN) : Prop := w.heap[b]? = some (.cells #[.float .f32 m.a, .float .f32 m.b, .float .f32 m.c, .float .f32 m.d] T (0, 0))
section
variable {T : TypeId} {w w' : World} {b : Nat} {m : MemN}
theorem MemB.lt (h : MemB T w b m) : b < w.heap.size := (Array.getElem?_eq_some_iff.1 h).1
theorem MemB.c0 (h : MemB T w b m) : w.cell? ⟨b, 0, none⟩ = some (.float .f32 m.a) := by unfold MemB at h; simp [World.cell?, h]
theorem MemB.c1 (h : MemB T w b m) : w.cell? ⟨b, 1, none⟩ = some (.float .f32 m.b) := by unfold MemB at h; simp [World.cell?, h]
theorem MemB.c2 (h : MemB T w b m) : w.cell? ⟨b, 2, none⟩ = some (.float .f32 m.c) := by unfold MemB at h; simp [World.cell?, h]
theorem MemB.c3 (h : MemB T w b m) : w.cell? ⟨b, 3, none⟩ = some (.float .f32 m.d) := by unfold MemB at h; simp [World.cell?, h]
theorem MemB.free (h : MemB T w b m) (q : Nat) : w.frozen? ⟨b, q, none⟩ = false := by unfold MemB at h; simp [World.frozen?, h]
theorem MemB.of (h : MemB T w b m) (e : w'.heap[b]? = w.heap[b]?) : MemB T w' b m := e.trans h
theorem MemB.since {B : Nat} (h : MemB T w b m) (s : w.Since B w') (hb : b < B) : MemB T w' b m := h.of (s.block b hb)
theorem MemB.set (h : MemB T w b m) (x y z u : Nat) : MemB T ((((w.setCell ⟨b, 0, none⟩ (.float .f32 x)).setCell ⟨b, 1, none⟩ (.float .f32 y)).setCell ⟨b, 2, none⟩ (.float .f32 z)).setCell ⟨b, 3, none⟩ (.float .f32 u)) b ⟨x, y, z, u⟩ := by
  unfold MemB at h ⊢
  simp [World.setCell, Array.getElem?_modify, h]
theorem MemB.new (T : TypeId) (w : World) (x y z u : Nat) : MemB T (w.alloc (.cells #[.float .f32 x, .float .f32 y, .float .f32 z, .float .f32 u] T)) w.heap.size ⟨x, y, z, u⟩ := Go.Deep.blk_alloc_new _ _
end
theorem gs_low {T : TypeId} {w w' : World} {lo n g : Nat} {A : Option Addr} {xs : List Nat} (h : Gs T w lo A n xs) (o : On g w w') (hd : g < lo) : Gs T w' lo A n xs :=
  ⟨h.1, h.2.1, fun hn => by
    obtain ⟨b, cs, e, hb, hh, hc⟩ := h.2.2 hn
    exact ⟨b, cs, e, hb, (o.2 b (Array.getElem?_eq_some_iff.1 hh).1 (by omega)).trans hh, hc⟩⟩
end Go.Proofs.Ytbhigpfpnbdilaa

/- Filters of halves and samples of small integers: the three forms have the same exact numbers. -/
set_option linter.unusedVariables false
set_option linter.unusedSimpArgs false
namespace Go.Proofs.Ytbhigpfpnbdilaa
open Fl Go.RowKit Ieee
/-- numbers of a filter in halves -/
structure HZ where
  b0 : Int
  b1 : Int
  b2 : Int
  a1 : Int
  a2 : Int
def HZ.le (h : HZ) (m : Nat) : Prop := h.b0.natAbs ≤ m ∧ h.b1.natAbs ≤ m ∧ h.b2.natAbs ≤ m ∧ h.a1.natAbs ≤ 2 ∧ h.a2.natAbs ≤ 2
def HZ.of (h : HZ) (F : Fil) : Prop := EO .f32 1 h.b0 F.b0 ∧ EO .f32 1 h.b1 F.b1 ∧ EO .f32 1 h.b2 F.b2 ∧ EO .f32 1 h.a1 F.a1 ∧ EO .f32 1 h.a2 F.a2
/-- the last samples and the last results, before sample i: D(i-1) in units of 2^-i, D(i-2) in units of 2^-(i-1) -/
structure DZ where
  d1 : Int
  d2 : Int
  x1 : Int
  x2 : Int
def dNew (h : HZ) (i : Nat) (s : DZ) (x : Int) : Int := 2 ^ i * (h.b0 * x + h.b1 * s.x1 + h.b2 * s.x2) - h.a1 * s.d1 - h.a2 * (2 * s.d2)
def dzs (h : HZ) (X : Nat → Int) : Nat → DZ
  | 0 => ⟨0, 0, 0, 0⟩
  | i + 1 => ⟨dNew h i (dzs h X i) (X i), (dzs h X i).d1, X i, (dzs h X i).x1⟩
/-- the sample that all forms give, in units of 2^-(i+1) -/
def dz (h : HZ) (X : Nat → Int) (i : Nat) : Int := dNew h i (dzs h X i) (X i)
theorem mul_le {a b : Int} {m n : Nat} (h1 : a.natAbs ≤ m) (h2 : b.natAbs ≤ n) : (a * b).natAbs ≤ m * n := by
  rw [Int.natAbs_mul]; exact Nat.mul_le_mul h1 h2
theorem two_four (i : Nat) : 2 ^ i ≤ 4 ^ i := Nat.pow_le_pow_left (by decide) i
theorem pow_abs (i : Nat) (a : Int) : (2 ^ i * a).natAbs = 2 ^ i * a.natAbs := by
  rw [Int.natAbs_mul, Int.natAbs_pow]; rfl
theorem hz_four (z q : Nat) (h : 4 * z ≤ 96 * q) : 2 * (2 * z) ≤ 96 * q := by omega
theorem hz_three (u v t : Int) (p0 : u.natAbs ≤ 4 * 8) (p1 : v.natAbs ≤ 4 * 8) (p2 : t.natAbs ≤ 4 * 8) : (u + v + t).natAbs ≤ 96 := by omega
theorem hz_sum (u v t : Int) (p q : Nat) (p3 : v.natAbs ≤ 2 * (96 * q)) (p4 : t.natAbs ≤ 96 * q) (p5 : u.natAbs ≤ p * 96) (p6 : p ≤ q) : (u - v - t).natAbs ≤ 96 * (4 * q) := by omega
theorem hz_b2 (u v : Int) (h1 : u.natAbs ≤ 4096 * 32) (h2 : v.natAbs ≤ 2 * (96 * 4096)) : (u - v).natAbs < 16777216 := by omega
theorem hz_b3 (u v t : Int) (h1 : u.natAbs ≤ 4096 * 32) (h2 : v.natAbs ≤ 2 * (96 * 4096)) (h3 : t.natAbs ≤ 2 * (96 * 4096)) : (u - v + t).natAbs < 16777216 := by omega
theorem dNew_le {h : HZ} {s : DZ} {x : Int} {i : Nat} (hh : h.le 4) (h1 : s.d1.natAbs ≤ 96 * 4 ^ i) (h2 : 4 * s.d2.natAbs ≤ 96 * 4 ^ i) (h3 : s.x1.natAbs ≤ 8) (h4 : s.x2.natAbs ≤ 8) (x0 : x.natAbs ≤ 8) : (dNew h i s x).natAbs ≤ 96 * 4 ^ (i + 1) := by
  obtain ⟨k1, k2, k3, k4, k5⟩ := hh
  have p0 := mul_le k1 x0
  have p1 := mul_le k2 h3
  have p2 := mul_le k3 h4
  have p3 := mul_le k4 h1
  have p4 : (h.a2 * (2 * s.d2)).natAbs ≤ 96 * 4 ^ i := by
    have e : (2 * s.d2).natAbs = 2 * s.d2.natAbs := by rw [Int.natAbs_mul]; rfl
    refine Nat.le_trans (mul_le k5 (Nat.le_of_eq e)) ?_
    exact hz_four _ _ h2
  have p5 : (2 ^ i * (h.b0 * x + h.b1 * s.x1 + h.b2 * s.x2)).natAbs ≤ 2 ^ i * 96 := by
    rw [pow_abs]
    refine Nat.mul_le_mul_left _ ?_
    exact hz_three _ _ _ p0 p1 p2
  have p6 := two_four i
  have p7 : 4 ^ (i + 1) = 4 * 4 ^ i := by rw [Nat.pow_succ, Nat.mul_comm]
  unfold dNew
  rw [p7]
  generalize 2 ^ i * (h.b0 * x + h.b1 * s.x1 + h.b2 * s.x2) = u at *
  generalize h.a1 * s.d1 = v at *
  generalize h.a2 * (2 * s.d2) = t at *
  generalize (4 : Nat) ^ i = q at *
  generalize (2 : Nat) ^ i = p at *
  exact hz_sum u v t p q p3 p4 p5 p6
theorem dzs_le {h : HZ} {X : Nat → Int} (hh : h.le 4) (hX : ∀ j, j < 6 → (X j).natAbs ≤ 8) : ∀ i, i ≤ 6 → (dzs h X i).d1.natAbs ≤ 96 * 4 ^ i ∧ 4 * (dzs h X i).d2.natAbs ≤ 96 * 4 ^ i ∧ (dzs h X i).x1.natAbs ≤ 8 ∧ (dzs h X i).x2.natAbs ≤ 8
  | 0, _ => by refine ⟨?_, ?_, ?_, ?_⟩ <;> exact Nat.zero_le _
  | i + 1, hi => by
    obtain ⟨h1, h2, h3, h4⟩ := dzs_le hh hX i (by omega)
    have x0 := hX i (by omega)
    refine ⟨dNew_le hh h1 h2 h3 h4 x0, ?_, x0, h3⟩
    show 4 * (dzs h X i).d1.natAbs ≤ _
    rw [Nat.pow_succ]
    generalize (4 : Nat) ^ i = q at *
    omega
theorem four_le {i : Nat} (h : i ≤ 6) : 4 ^ i ≤ 4096 := Nat.pow_le_pow_right (by decide) h
section
variable {h : HZ} {F : Fil} {q : Nat}
theorem eo_times {a b : Int} {X Y : O} {q : Nat} (hx : EO .f32 1 a X) (hy : EO .f32 q b Y) (hb : (a * b).natAbs < 16777216) (hq : q ≤ 40) : EO .f32 (q + 1) (a * b) (mu X Y) := by
  have := EO.mul hx hy (by rw [bd32]; exact hb) (by show 1 + q ≤ 149; omega)
  rwa [Nat.add_comm] at this
theorem eo_lift {a : Int} {X : O} (hx : EO .f32 1 a X) (i : Nat) (hi : i ≤ 40) : EO .f32 (i + 1) (2 ^ i * a) X := by
  have := hx.up i (by show 1 + i ≤ 149; omega)
  rw [Nat.add_comm] at this
  refine this.cast ?_
  rw [Int.mul_comm]
  congr 1
end
/-- one step of the direct form -/
theorem dir_step {h : HZ} {F : Fil} {s : DZ} {x : Int} {X X1 X2 Y1 Y2 : O} {i : Nat} (hi : i ≤ 5) (hh : h.le 4) (hf : h.of F)
    (h1 : s.d1.natAbs ≤ 96 * 4 ^ i) (h2 : 4 * s.d2.natAbs ≤ 96 * 4 ^ i) (h3 : s.x1.natAbs ≤ 8) (h4 : s.x2.natAbs ≤ 8) (x0 : x.natAbs ≤ 8)
    (ex : EO .f32 0 x X) (e1 : EO .f32 0 s.x1 X1) (e2 : EO .f32 0 s.x2 X2) (f1 : EO .f32 i s.d1 Y1) (f2 : EO .f32 i (2 * s.d2) Y2) :
    EO .f32 (i + 1) (dNew h i s x) (dirY false F.b0 F.b1 F.b2 F.a1 F.a2 X1 X2 Y1 Y2 X) := by
  obtain ⟨k1, k2, k3, k4, k5⟩ := hh
  obtain ⟨g1, g2, g3, g4, g5⟩ := hf
  have q4 := four_le (i := i) (by omega)
  have q2 := Nat.le_trans (two_four i) q4
  have p0 := mul_le k1 x0
  have p1 := mul_le k2 h3
  have p2 := mul_le k3 h4
  have p3 := mul_le k4 h1
  have p4 : (h.a2 * (2 * s.d2)).natAbs ≤ 96 * 4 ^ i := by
    have e : (2 * s.d2).natAbs = 2 * s.d2.natAbs := by rw [Int.natAbs_mul]; rfl
    refine Nat.le_trans (mul_le k5 (Nat.le_of_eq e)) ?_
    exact hz_four _ _ h2
  have hb : bd .f32 = 16777216 := bd32
  have r0 : (2 ^ i * (h.b0 * x)).natAbs ≤ 4096 * 32 := by rw [pow_abs]; exact Nat.mul_le_mul q2 p0
  have r1 : (2 ^ i * (h.b1 * s.x1)).natAbs ≤ 4096 * 32 := by rw [pow_abs]; exact Nat.mul_le_mul q2 p1
  have r2 : (2 ^ i * (h.b2 * s.x2)).natAbs ≤ 4096 * 32 := by rw [pow_abs]; exact Nat.mul_le_mul q2 p2
  have t0 := eo_lift (eo_times g1 ex (Nat.lt_of_le_of_lt p0 (by decide)) (by decide)) i (by omega)
  have t1 := eo_lift (eo_times g2 e1 (Nat.lt_of_le_of_lt p1 (by decide)) (by decide)) i (by omega)
  have t2 := eo_lift (eo_times g3 e2 (Nat.lt_of_le_of_lt p2 (by decide)) (by decide)) i (by omega)
  have p3' : (h.a1 * s.d1).natAbs ≤ 2 * (96 * 4096) := Nat.le_trans p3 (Nat.mul_le_mul_left _ (Nat.mul_le_mul_left _ q4))
  have p4' : (h.a2 * (2 * s.d2)).natAbs ≤ 96 * 4096 := Nat.le_trans p4 (Nat.mul_le_mul_left _ q4)
  have t3 := eo_times g4 f1 (Nat.lt_of_le_of_lt p3' (by decide)) (by omega)
  have t4 := eo_times g5 f2 (Nat.lt_of_le_of_lt p4' (by decide)) (by omega)
  have z : EO .f32 (i + 1) (2 ^ i * (h.b0 * x) + 2 ^ i * (h.b1 * s.x1) + 2 ^ i * (h.b2 * s.x2) - h.a1 * s.d1 - h.a2 * (2 * s.d2)) (dirY false F.b0 F.b1 F.b2 F.a1 F.a2 X1 X2 Y1 Y2 X) := by
    generalize 2 ^ i * (h.b0 * x) = u0 at *
    generalize 2 ^ i * (h.b1 * s.x1) = u1 at *
    generalize 2 ^ i * (h.b2 * s.x2) = u2 at *
    generalize h.a1 * s.d1 = u3 at *
    generalize h.a2 * (2 * s.d2) = u4 at *
    clear p0 p1 p2 p3 p4 h1 h2 h3 h4 q2 q4 k1 k2 k3 k4 k5
    exact (((t0.add t1 (by omega)).add t2 (by omega)).sub t3 (by omega)).sub t4 (by omega)
  refine z.cast ?_
  unfold dNew
  rw [Int.mul_add, Int.mul_add]
theorem eo_up1 {q : Nat} {a : Int} {X : O} (h : EO .f32 q a X) (hq : q ≤ 100) : EO .f32 (q + 1) (2 * a) X := by
  have := h.up 1 (by show q + 1 ≤ 149; omega)
  exact this.cast (by rw [Int.mul_comm]; rfl)
theorem eo_0 (q : Nat) : EO .f32 q 0 (some 0) := ⟨0, rfl, by unfold Fl.Fin; decide, by rw [Int.zero_mul]; decide⟩
theorem eo_flush {q : Nat} {a : Int} {X : O} (h : EO .f32 q a X) (hq : q ≤ 100) : EO .f32 q a (flO true X) := by
  obtain ⟨b, rfl, fb, vb⟩ := h
  have e : flushN b = b ∨ flushN b = b / 2147483648 * 2147483648 ∧ a = 0 ∧ b % 2147483648 = 0 := by
    unfold flushN
    by_cases h1 : b % 2147483648 < 8388608
    · rw [if_pos h1]
      right
      have hr : rung .f32 b = b % 2147483648 := by unfold rung; rw [sw32]
      have hz : zv .f32 (rung .f32 b) = a.natAbs * un .f32 q := by rw [← sv_abs, vb, Int.natAbs_mul, Int.natAbs_natCast]
      have hzr : zv .f32 (rung .f32 b) = b % 2147483648 := by unfold zv; rw [hr, show FloatKind.f32.format.binade = 8388608 by decide, if_pos h1]
      have hu : 8388608 ≤ un .f32 q := by
        show 2 ^ 23 ≤ 2 ^ (149 - q)
        exact Nat.pow_le_pow_right (by decide) (by omega)
      have ha : a.natAbs = 0 := by
        rcases Nat.eq_zero_or_pos a.natAbs with h0 | h0
        · exact h0
        · exfalso
          have := Nat.mul_le_mul h0 hu
          omega
      refine ⟨rfl, by omega, ?_⟩
      rw [ha, Nat.zero_mul] at hz
      omega
    · rw [if_neg h1]; exact .inl rfl
  rcases e with e | ⟨e, rfl, hb⟩
  · refine ⟨b, ?_, fb, vb⟩
    show some (flushN b) = some b
    rw [e]
  · refine ⟨b, ?_, fb, vb⟩
    show some (flushN b) = some b
    rw [e]
    congr 1
    omega
def noMem : Mem := ⟨some 0, some 0, some 0, some 0⟩
section
variable {h : HZ} {F : Fil} {X : Nat → Int} {Z : Nat → O}
theorem dz_le (hh : h.le 4) (hX : ∀ j, j < 6 → (X j).natAbs ≤ 8) {i : Nat} (hi : i < 6) : (dz h X i).natAbs ≤ 96 * 4 ^ (i + 1) := (dzs_le hh hX (i + 1) (by omega)).1
theorem dir_run (hh : h.le 4) (hf : h.of F) (hX : ∀ j, j < 6 → (X j).natAbs ≤ 8) (hZ : ∀ j, j < 6 → EO .f32 0 (X j) (Z j)) : ∀ i, i ≤ 6 →
    EO .f32 0 (dzs h X i).x1 (filM 0 false F noMem Z i).a ∧ EO .f32 0 (dzs h X i).x2 (filM 0 false F noMem Z i).b ∧ EO .f32 i (dzs h X i).d1 (filM 0 false F noMem Z i).c ∧ EO .f32 i (2 * (dzs h X i).d2) (filM 0 false F noMem Z i).d
  | 0, _ => ⟨eo_0 0, eo_0 0, eo_0 0, eo_0 0⟩
  | i + 1, hi => by
    obtain ⟨e1, e2, e3, e4⟩ := dir_run hh hf hX hZ i (by omega)
    obtain ⟨h1, h2, h3, h4⟩ := dzs_le hh hX i (by omega)
    exact ⟨hZ i (by omega), e1, dir_step (by omega) hh hf h1 h2 h3 h4 (hX i (by omega)) (hZ i (by omega)) e1 e2 e3 e4, eo_up1 e3 (by omega)⟩
theorem dir_out (hh : h.le 4) (hf : h.of F) (hX : ∀ j, j < 6 → (X j).natAbs ≤ 8) (hZ : ∀ j, j < 6 → EO .f32 0 (X j) (Z j)) {i : Nat} (hi : i < 6) : EO .f32 (i + 1) (dz h X i) (filY 0 false F noMem Z i) := by
  obtain ⟨e1, e2, e3, e4⟩ := dir_run hh hf hX hZ i (by omega)
  obtain ⟨h1, h2, h3, h4⟩ := dzs_le hh hX i (by omega)
  exact dir_step (by omega) hh hf h1 h2 h3 h4 (hX i hi) (hZ i hi) e1 e2 e3 e4
def tzA (h : HZ) (i : Nat) (s : DZ) : Int := 2 ^ i * (h.b1 * s.x1) + 2 ^ i * (h.b2 * s.x2) - h.a1 * s.d1 - h.a2 * (2 * s.d2)
def tzB (h : HZ) (i : Nat) (s : DZ) : Int := 2 ^ i * (h.b2 * s.x1) - h.a2 * s.d1
theorem dNew_tz (h : HZ) (i : Nat) (s : DZ) (x : Int) : dNew h i s x = 2 ^ i * (h.b0 * x) + tzA h i s := by
  unfold dNew tzA
  rw [Int.mul_add, Int.mul_add]
  generalize 2 ^ i * (h.b0 * x) = a
  generalize 2 ^ i * (h.b1 * s.x1) = b
  generalize 2 ^ i * (h.b2 * s.x2) = c
  generalize h.a1 * s.d1 = d
  generalize h.a2 * (2 * s.d2) = e
  omega
theorem tz_next (h : HZ) (i : Nat) (s : DZ) (x : Int) : tzA h (i + 1) ⟨dNew h i s x, s.d1, x, s.x1⟩ = 2 ^ (i + 1) * (h.b1 * x) - h.a1 * dNew h i s x + 2 * tzB h i s := by
  unfold tzA tzB
  generalize dNew h i s x = y
  simp only
  have e1 : (2 : Int) ^ (i + 1) * (h.b2 * s.x1) = 2 * (2 ^ i * (h.b2 * s.x1)) := by rw [Int.pow_succ]; ac_rfl
  have e2 : h.a2 * (2 * s.d1) = 2 * (h.a2 * s.d1) := by ac_rfl
  rw [e1, e2]
  generalize 2 ^ i * (h.b2 * s.x1) = a
  generalize h.a2 * s.d1 = b
  generalize 2 ^ (i + 1) * (h.b1 * x) = c
  generalize h.a1 * y = d
  omega
theorem tz_le {s : DZ} {i : Nat} (hh : h.le 4) (h1 : s.d1.natAbs ≤ 96 * 4 ^ i) (h2 : 4 * s.d2.natAbs ≤ 96 * 4 ^ i) (h3 : s.x1.natAbs ≤ 8) (h4 : s.x2.natAbs ≤ 8) : (tzA h i s).natAbs ≤ 96 * 4 ^ (i + 1) ∧ (tzB h i s).natAbs ≤ 96 * 4 ^ (i + 1) := by
  have a := dNew_le (x := 0) hh h1 h2 h3 h4 (by decide)
  rw [dNew_tz, Int.mul_zero, Int.mul_zero, Int.zero_add] at a
  refine ⟨a, ?_⟩
  obtain ⟨k1, k2, k3, k4, k5⟩ := hh
  have p1 := mul_le k3 h3
  have p2 := mul_le k5 h1
  have p3 : (2 ^ i * (h.b2 * s.x1)).natAbs ≤ 4 ^ i * 32 := by rw [pow_abs]; exact Nat.mul_le_mul (two_four i) p1
  unfold tzB
  rw [show 4 ^ (i + 1) = 4 * 4 ^ i by rw [Nat.pow_succ, Nat.mul_comm]]
  generalize 2 ^ i * (h.b2 * s.x1) = u at p3 ⊢
  generalize h.a2 * s.d1 = v at p2 ⊢
  generalize (4 : Nat) ^ i = q at p2 p3 ⊢
  omega
theorem tur_run (hh : h.le 4) (hf : h.of F) (hX : ∀ j, j < 6 → (X j).natAbs ≤ 8) (hZ : ∀ j, j < 6 → EO .f32 0 (X j) (Z j)) : ∀ i, i ≤ 6 →
    EO .f32 (i + 1) (tzA h i (dzs h X i)) (filM 1 false F noMem Z i).a ∧ EO .f32 (i + 1) (tzB h i (dzs h X i)) (filM 1 false F noMem Z i).b ∧ (i < 6 → EO .f32 (i + 1) (dz h X i) (filY 1 false F noMem Z i))
  | 0, _ => by
    have z1 : tzA h 0 (dzs h X 0) = 0 := by simp [tzA, dzs]
    have z2 : tzB h 0 (dzs h X 0) = 0 := by simp [tzB, dzs]
    refine ⟨by rw [z1]; exact eo_0 1, by rw [z2]; exact eo_0 1, fun hi => ?_⟩
    have hd : dz h X 0 = 2 ^ 0 * (h.b0 * X 0) + tzA h 0 (dzs h X 0) := dNew_tz _ _ _ _
    rw [hd, z1]
    have p0 := mul_le hh.1 (hX 0 hi)
    have hb : bd .f32 = 16777216 := bd32
    have t0 := eo_lift (eo_times hf.1 (hZ 0 hi) (Nat.lt_of_le_of_lt p0 (by decide)) (by decide)) 0 (by decide)
    exact t0.add (eo_0 1) (by rw [hb, Int.add_zero, pow_abs]; omega)
  | i + 1, hi => by
    obtain ⟨e1, e2, e3⟩ := tur_run hh hf hX hZ i (by omega)
    have ey := e3 (by omega)
    obtain ⟨h1, h2, h3, h4⟩ := dzs_le hh hX i (by omega)
    obtain ⟨m1, m2, m3, m4⟩ := dzs_le hh hX (i + 1) hi
    have x0 := hX i (by omega)
    obtain ⟨l1, l2⟩ := tz_le hh h1 h2 h3 h4
    obtain ⟨n1, n2⟩ := tz_le hh m1 m2 m3 m4
    have hb : bd .f32 = 16777216 := bd32
    have q4 : 4 ^ (i + 1) ≤ 4096 := four_le (by omega)
    have q5 : 4 ^ (i + 1 + 1) = 4 * 4 ^ (i + 1) := by rw [Nat.pow_succ, Nat.mul_comm]
    have yb := dz_le hh hX (i := i) (by omega)
    have p1 := mul_le hh.2.1 x0
    have p2 := mul_le hh.2.2.1 x0
    have p3 := mul_le hh.2.2.2.1 yb
    have p4 := mul_le hh.2.2.2.2 yb
    have p3' : (h.a1 * dz h X i).natAbs ≤ 2 * (96 * 4096) := Nat.le_trans p3 (Nat.mul_le_mul_left _ (Nat.mul_le_mul_left _ q4))
    have p4' : (h.a2 * dz h X i).natAbs ≤ 2 * (96 * 4096) := Nat.le_trans p4 (Nat.mul_le_mul_left _ (Nat.mul_le_mul_left _ q4))
    have t1 := eo_lift (eo_times hf.2.1 (hZ i (by omega)) (Nat.lt_of_le_of_lt p1 (by decide)) (by decide)) (i + 1) (by omega)
    have t2 := eo_lift (eo_times hf.2.2.1 (hZ i (by omega)) (Nat.lt_of_le_of_lt p2 (by decide)) (by decide)) (i + 1) (by omega)
    have t3 := eo_times hf.2.2.2.1 ey (Nat.lt_of_le_of_lt p3' (by decide)) (by omega)
    have t4 := eo_times hf.2.2.2.2 ey (Nat.lt_of_le_of_lt p4' (by decide)) (by omega)
    have t5 := eo_up1 e2 (by omega)
    have two : (2 : Nat) ^ (i + 1) ≤ 4096 := Nat.le_trans (two_four _) q4
    have r1 : (2 ^ (i + 1) * (h.b1 * X i)).natAbs ≤ 4096 * 32 := by rw [pow_abs]; exact Nat.mul_le_mul two p1
    have r2 : (2 ^ (i + 1) * (h.b2 * X i)).natAbs ≤ 4096 * 32 := by rw [pow_abs]; exact Nat.mul_le_mul two p2
    have l2' : (2 * tzB h i (dzs h X i)).natAbs ≤ 2 * (96 * 4096) := by
      rw [Int.natAbs_mul]; exact Nat.mul_le_mul_left 2 (Nat.le_trans l2 (Nat.mul_le_mul_left _ q4))
    have A1 : EO .f32 (i + 1 + 1) (tzA h (i + 1) (dzs h X (i + 1))) (filM 1 false F noMem Z (i + 1)).a := by
      have e : tzA h (i + 1) (dzs h X (i + 1)) = 2 ^ (i + 1) * (h.b1 * X i) - h.a1 * dz h X i + 2 * tzB h i (dzs h X i) := tz_next h i (dzs h X i) (X i)
      rw [e]
      show EO .f32 _ _ (ad (su (mu F.b1 (Z i)) (mu F.a1 (filY 1 false F noMem Z i))) (filM 1 false F noMem Z i).b)
      generalize 2 ^ (i + 1) * (h.b1 * X i) = u at *
      generalize h.a1 * dz h X i = v at *
      generalize 2 * tzB h i (dzs h X i) = t at *
      exact (t1.sub t3 (by rw [hb]; exact hz_b2 u v r1 p3')).add t5 (by rw [hb]; exact hz_b3 u v t r1 p3' l2')
    have B1 : EO .f32 (i + 1 + 1) (tzB h (i + 1) (dzs h X (i + 1))) (filM 1 false F noMem Z (i + 1)).b := by
      have e : tzB h (i + 1) (dzs h X (i + 1)) = 2 ^ (i + 1) * (h.b2 * X i) - h.a2 * dz h X i := rfl
      rw [e]
      show EO .f32 _ _ (su (mu F.b2 (Z i)) (mu F.a2 (filY 1 false F noMem Z i)))
      generalize 2 ^ (i + 1) * (h.b2 * X i) = u at *
      generalize h.a2 * dz h X i = v at *
      exact t2.sub t4 (by rw [hb]; exact hz_b2 u v r2 p4')
    refine ⟨A1, B1, fun hi2 => ?_⟩
    have hd : dz h X (i + 1) = 2 ^ (i + 1) * (h.b0 * X (i + 1)) + tzA h (i + 1) (dzs h X (i + 1)) := dNew_tz _ _ _ _
    have p0 := mul_le hh.1 (hX (i + 1) hi2)
    have t0 := eo_lift (eo_times hf.1 (hZ (i + 1) hi2) (Nat.lt_of_le_of_lt p0 (by decide)) (by decide)) (i + 1) (by omega)
    have dl := dz_le hh hX hi2
    have dl' : (dz h X (i + 1)).natAbs < 16777216 := Nat.lt_of_le_of_lt (Nat.le_trans dl (by rw [q5]; exact Nat.mul_le_mul_left 96 (Nat.mul_le_mul_left 4 q4))) (by decide)
    rw [hd] at dl' ⊢
    exact t0.add A1 (by rw [hb]; exact dl')
end
end Go.Proofs.Ytbhigpfpnbdilaa

/- The canonic form's numbers, and those of a doubled filter. -/
set_option linter.unusedVariables false
set_option linter.unusedSimpArgs false
namespace Go.Proofs.Ytbhigpfpnbdilaa
open Fl Go.RowKit Ieee
structure CZ where
  w1 : Int
  w2 : Int
  w3 : Int
  w4 : Int
def wNew (h : HZ) (i : Nat) (s : CZ) (x : Int) : Int := 2 ^ i * x - h.a1 * s.w1 - h.a2 * (2 * s.w2)
def czs (h : HZ) (X : Nat → Int) : Nat → CZ
  | 0 => ⟨0, 0, 0, 0⟩
  | i + 1 => ⟨wNew h i (czs h X i) (X i), (czs h X i).w1, (czs h X i).w2, (czs h X i).w3⟩
/-- what holds of the numbers of both forms ahead of a sample -/
def Kin (h : HZ) (i : Nat) (s : DZ) (c : CZ) : Prop :=
  s.d1 = h.b0 * c.w1 + 2 * (h.b1 * c.w2) + 4 * (h.b2 * c.w3) ∧ s.d2 = h.b0 * c.w2 + 2 * (h.b1 * c.w3) + 4 * (h.b2 * c.w4)
  ∧ 2 ^ i * s.x1 = 2 * (c.w1 + h.a1 * c.w2 + 2 * (h.a2 * c.w3)) ∧ 2 ^ i * s.x2 = 4 * (c.w2 + h.a1 * c.w3 + 2 * (h.a2 * c.w4))
theorem kin_new {h : HZ} {i : Nat} {s : DZ} {c : CZ} (k : Kin h i s c) (x : Int) : dNew h i s x = h.b0 * wNew h i c x + 2 * (h.b1 * c.w1) + 4 * (h.b2 * c.w2) := by
  obtain ⟨k1, k2, k3, k4⟩ := k
  obtain ⟨b0, b1, b2, a1, a2⟩ := h
  obtain ⟨d1, d2, x1, x2⟩ := s
  obtain ⟨w1, w2, w3, w4⟩ := c
  simp only at k1 k2 k3 k4
  unfold dNew wNew
  simp only
  have e : 2 ^ i * (b0 * x + b1 * x1 + b2 * x2) = b0 * (2 ^ i * x) + b1 * (2 ^ i * x1) + b2 * (2 ^ i * x2) := by
    rw [Int.mul_add, Int.mul_add]
    congr 1
    · congr 1 <;> ac_rfl
    · ac_rfl
  rw [e, k3, k4, k1, k2]
  generalize 2 ^ i * x = p
  simp only [Int.mul_add, Int.mul_sub]
  have m1 : a1 * (b0 * w1) = b0 * (a1 * w1) := by ac_rfl
  have m2 : a1 * (2 * (b1 * w2)) = 2 * (b1 * (a1 * w2)) := by ac_rfl
  have m3 : a1 * (4 * (b2 * w3)) = 4 * (b2 * (a1 * w3)) := by ac_rfl
  have m4 : a2 * (2 * (b0 * w2)) = b0 * (a2 * (2 * w2)) := by ac_rfl
  have m5 : a2 * (2 * (2 * (b1 * w3))) = 4 * (b1 * (a2 * w3)) := by
    have : a2 * (2 * (2 * (b1 * w3))) = (2 * 2) * (b1 * (a2 * w3)) := by ac_rfl
    rw [this]; rfl
  have m6 : a2 * (2 * (4 * (b2 * w4))) = 8 * (b2 * (a2 * w4)) := by
    have : a2 * (2 * (4 * (b2 * w4))) = (2 * 4) * (b2 * (a2 * w4)) := by ac_rfl
    rw [this]; rfl
  have n1 : b1 * (2 * w1) = 2 * (b1 * w1) := by ac_rfl
  have n2 : b1 * (2 * (a1 * w2)) = 2 * (b1 * (a1 * w2)) := by ac_rfl
  have n3 : b1 * (2 * (2 * (a2 * w3))) = 4 * (b1 * (a2 * w3)) := by
    have : b1 * (2 * (2 * (a2 * w3))) = (2 * 2) * (b1 * (a2 * w3)) := by ac_rfl
    rw [this]; rfl
  have n4 : b2 * (4 * w2) = 4 * (b2 * w2) := by ac_rfl
  have n5 : b2 * (4 * (a1 * w3)) = 4 * (b2 * (a1 * w3)) := by ac_rfl
  have n6 : b2 * (4 * (2 * (a2 * w4))) = 8 * (b2 * (a2 * w4)) := by
    have : b2 * (4 * (2 * (a2 * w4))) = (4 * 2) * (b2 * (a2 * w4)) := by ac_rfl
    rw [this]; rfl
  rw [m1, m2, m3, m4, m5, m6, n1, n2, n3, n4, n5, n6]
  omega
theorem kin {h : HZ} {X : Nat → Int} : ∀ i, Kin h i (dzs h X i) (czs h X i)
  | 0 => by simp [Kin, dzs, czs]
  | i + 1 => by
    have k := kin (h := h) (X := X) i
    have e := kin_new k (X i)
    obtain ⟨k1, k2, k3, k4⟩ := k
    refine ⟨e, k1, ?_, ?_⟩
    · show 2 ^ (i + 1) * X i = 2 * (wNew h i (czs h X i) (X i) + h.a1 * (czs h X i).w1 + 2 * (h.a2 * (czs h X i).w2))
      unfold wNew
      have e1 : (2 : Int) ^ (i + 1) * X i = 2 * (2 ^ i * X i) := by rw [Int.pow_succ]; ac_rfl
      have e2 : h.a2 * (2 * (czs h X i).w2) = 2 * (h.a2 * (czs h X i).w2) := by ac_rfl
      rw [e1, e2]
      generalize 2 ^ i * X i = u
      generalize h.a1 * (czs h X i).w1 = v
      generalize h.a2 * (czs h X i).w2 = t
      omega
    · show 2 ^ (i + 1) * (dzs h X i).x1 = 4 * ((czs h X i).w1 + h.a1 * (czs h X i).w2 + 2 * (h.a2 * (czs h X i).w3))
      have e1 : (2 : Int) ^ (i + 1) * (dzs h X i).x1 = 2 * (2 ^ i * (dzs h X i).x1) := by rw [Int.pow_succ]; ac_rfl
      rw [e1, k3]
      omega
theorem wz_sum (u v t : Int) (p q : Nat) (h1 : u.natAbs ≤ p * 8) (h2 : v.natAbs ≤ 2 * (12 * q)) (h3 : t.natAbs ≤ 12 * q) (h4 : p ≤ q) : (u - v - t).natAbs ≤ 12 * (4 * q) := by omega
theorem wz_four (z q : Nat) (h : 4 * z ≤ 12 * q) : 2 * (2 * z) ≤ 12 * q := by omega
theorem czs_le {h : HZ} {X : Nat → Int} (hh : h.le 4) (hX : ∀ j, j < 6 → (X j).natAbs ≤ 8) : ∀ i, i ≤ 6 → (czs h X i).w1.natAbs ≤ 12 * 4 ^ i ∧ 4 * (czs h X i).w2.natAbs ≤ 12 * 4 ^ i
  | 0, _ => ⟨Nat.zero_le _, Nat.zero_le _⟩
  | i + 1, hi => by
    obtain ⟨h1, h2⟩ := czs_le hh hX i (by omega)
    have x0 := hX i (by omega)
    have q4 : 4 ^ (i + 1) = 4 * 4 ^ i := by rw [Nat.pow_succ, Nat.mul_comm]
    refine ⟨?_, ?_⟩
    · show (wNew h i (czs h X i) (X i)).natAbs ≤ _
      have p3 := mul_le hh.2.2.2.1 h1
      have p4 : (h.a2 * (2 * (czs h X i).w2)).natAbs ≤ 12 * 4 ^ i := by
        have e : (2 * (czs h X i).w2).natAbs = 2 * (czs h X i).w2.natAbs := by rw [Int.natAbs_mul]; rfl
        exact Nat.le_trans (mul_le hh.2.2.2.2 (Nat.le_of_eq e)) (wz_four _ _ h2)
      have p5 : (2 ^ i * X i).natAbs ≤ 2 ^ i * 8 := by rw [pow_abs]; exact Nat.mul_le_mul_left _ x0
      unfold wNew
      rw [q4]
      exact wz_sum _ _ _ _ _ p5 p3 p4 (two_four i)
    · show 4 * (czs h X i).w1.natAbs ≤ _
      rw [q4]
      generalize (czs h X i).w1.natAbs = z at h1 ⊢
      generalize (4 : Nat) ^ i = q at h1 ⊢
      omega
theorem cz_b2 (u v : Int) (h1 : u.natAbs ≤ 8192 * 8) (h2 : v.natAbs ≤ 2 * (24 * 4096)) : (u - v).natAbs < 16777216 := by omega
theorem cz_b3 (u v t : Int) (h1 : u.natAbs ≤ 8192 * 8) (h2 : v.natAbs ≤ 2 * (24 * 4096)) (h3 : t.natAbs ≤ 2 * (12 * 4096)) : (u - v - t).natAbs < 16777216 := by omega
theorem can_w {h : HZ} {F : Fil} {X : Nat → Int} {Z A B : O} {i : Nat} (hi : i ≤ 5) (hh : h.le 4) (hf : h.of F) (x0 : (X i).natAbs ≤ 8) (hZ : EO .f32 0 (X i) Z)
    (h1 : (czs h X i).w1.natAbs ≤ 12 * 4 ^ i) (h2 : 4 * (czs h X i).w2.natAbs ≤ 12 * 4 ^ i) (e1 : EO .f32 i (2 * (czs h X i).w1) A) (e2 : EO .f32 i (4 * (czs h X i).w2) B) :
    EO .f32 (i + 1) (2 * (czs h X (i + 1)).w1) (canW true F.a1 F.a2 A B Z) := by
  have hb : bd .f32 = 16777216 := bd32
  have q4 : 4 ^ i ≤ 4096 := four_le (by omega)
  have w1b : (2 * (czs h X i).w1).natAbs ≤ 24 * 4096 := by
    have := Nat.le_trans h1 (Nat.mul_le_mul_left 12 q4)
    omega
  have w2b : (4 * (czs h X i).w2).natAbs ≤ 12 * 4096 := by
    have := Nat.le_trans h2 (Nat.mul_le_mul_left 12 q4)
    omega
  have p3 := mul_le hh.2.2.2.1 w1b
  have p4 := mul_le hh.2.2.2.2 w2b
  have t3 := eo_times hf.2.2.2.1 e1 (Nat.lt_of_le_of_lt p3 (by decide)) (by omega)
  have t4 := eo_times hf.2.2.2.2 e2 (Nat.lt_of_le_of_lt p4 (by decide)) (by omega)
  have tx : EO .f32 (i + 1) (2 ^ (i + 1) * X i) Z := by
    have := hZ.up (i + 1) (by show 0 + (i + 1) ≤ 149; omega)
    rw [Nat.zero_add] at this
    exact this.cast (by rw [Int.mul_comm]; rfl)
  have two : (2 : Nat) ^ (i + 1) ≤ 8192 := by
    have : (2 : Nat) ^ (i + 1) = 2 * 2 ^ i := by rw [Nat.pow_succ, Nat.mul_comm]
    have := Nat.le_trans (two_four i) q4
    omega
  have r1 : (2 ^ (i + 1) * X i).natAbs ≤ 8192 * 8 := by rw [pow_abs]; exact Nat.mul_le_mul two x0
  have e : 2 * (czs h X (i + 1)).w1 = 2 ^ (i + 1) * X i - h.a1 * (2 * (czs h X i).w1) - h.a2 * (4 * (czs h X i).w2) := by
    show 2 * wNew h i (czs h X i) (X i) = _
    unfold wNew
    have e1 : (2 : Int) ^ (i + 1) * X i = 2 * (2 ^ i * X i) := by rw [Int.pow_succ]; ac_rfl
    have e2 : h.a2 * (2 * (czs h X i).w2) = 2 * (h.a2 * (czs h X i).w2) := by ac_rfl
    have e3 : h.a2 * (4 * (czs h X i).w2) = 4 * (h.a2 * (czs h X i).w2) := by ac_rfl
    have e4 : h.a1 * (2 * (czs h X i).w1) = 2 * (h.a1 * (czs h X i).w1) := by ac_rfl
    rw [e1, e2, e3, e4]
    generalize 2 ^ i * X i = u
    generalize h.a1 * (czs h X i).w1 = v
    generalize h.a2 * (czs h X i).w2 = t
    omega
  rw [e]
  have z : EO .f32 (i + 1) (2 ^ (i + 1) * X i - h.a1 * (2 * (czs h X i).w1) - h.a2 * (4 * (czs h X i).w2)) (su (su Z (mu F.a1 A)) (mu F.a2 B)) :=
    (tx.sub t3 (by rw [hb]; exact cz_b2 _ _ r1 p3)).sub t4 (by rw [hb]; exact cz_b3 _ _ _ r1 p3 p4)
  exact eo_flush z (by omega)
theorem can_run {h : HZ} {F : Fil} {X : Nat → Int} {Z : Nat → O} (hh : h.le 4) (hf : h.of F) (hX : ∀ j, j < 6 → (X j).natAbs ≤ 8) (hZ : ∀ j, j < 6 → EO .f32 0 (X j) (Z j)) : ∀ i, i ≤ 6 →
    EO .f32 i (2 * (czs h X i).w1) (filM 2 true F noMem Z i).a ∧ EO .f32 i (4 * (czs h X i).w2) (filM 2 true F noMem Z i).b
  | 0, _ => ⟨eo_0 0, eo_0 0⟩
  | i + 1, hi => by
    obtain ⟨e1, e2⟩ := can_run hh hf hX hZ i (by omega)
    obtain ⟨h1, h2⟩ := czs_le hh hX i (by omega)
    refine ⟨eo_flush (can_w (by omega) hh hf (hX i (by omega)) (hZ i (by omega)) h1 h2 e1 e2) (by omega), ?_⟩
    have := eo_up1 e1 (by omega)
    have z : EO .f32 (i + 1) (4 * (czs h X (i + 1)).w2) (filM 2 true F noMem Z i).a := this.cast (by show 2 * (2 * (czs h X i).w1) = 4 * (czs h X i).w1; omega)
    exact eo_flush z (by omega)
theorem cy_b2 (u v : Int) (h1 : u.natAbs ≤ 4 * (24 * 4096)) (h2 : v.natAbs ≤ 2 * (4 * (24 * 4096))) : (u + v).natAbs < 16777216 := by omega
theorem cy_b3 (u v t : Int) (h1 : u.natAbs ≤ 4 * (24 * 4096)) (h2 : v.natAbs ≤ 2 * (4 * (24 * 4096))) (h3 : t.natAbs ≤ 2 * (4 * (12 * 4096))) : (u + v + t).natAbs < 16777216 := by omega
theorem can_out {h : HZ} {F : Fil} {X : Nat → Int} {Z : Nat → O} (hh : h.le 4) (hf : h.of F) (hX : ∀ j, j < 6 → (X j).natAbs ≤ 8) (hZ : ∀ j, j < 6 → EO .f32 0 (X j) (Z j)) {i : Nat} (hi : i < 6) :
    EO .f32 (i + 1 + 1) (2 * dz h X i) (filY 2 true F noMem Z i) := by
  obtain ⟨e1, e2⟩ := can_run hh hf hX hZ i (by omega)
  obtain ⟨e3, _⟩ := can_run hh hf hX hZ (i + 1) (by omega)
  obtain ⟨h1, h2⟩ := czs_le hh hX i (by omega)
  obtain ⟨h3, _⟩ := czs_le hh hX (i + 1) (by omega)
  have hb : bd .f32 = 16777216 := bd32
  have q4 : 4 ^ i ≤ 4096 := four_le (by omega)
  have q5 : 4 ^ (i + 1) ≤ 4096 := four_le (by omega)
  have w1b : (2 * (czs h X i).w1).natAbs ≤ 24 * 4096 := by
    have := Nat.le_trans h1 (Nat.mul_le_mul_left 12 q4)
    omega
  have w2b : (4 * (czs h X i).w2).natAbs ≤ 12 * 4096 := by
    have := Nat.le_trans h2 (Nat.mul_le_mul_left 12 q4)
    omega
  have w0b : (2 * (czs h X (i + 1)).w1).natAbs ≤ 24 * 4096 := by
    have := Nat.le_trans h3 (Nat.mul_le_mul_left 12 q5)
    omega
  have ev := can_w (by omega) hh hf (hX i hi) (hZ i hi) h1 h2 e1 e2
  have p0 := mul_le hh.1 w0b
  have p1 := mul_le hh.2.1 w1b
  have p2 := mul_le hh.2.2.1 w2b
  have t0 := eo_times hf.1 ev (Nat.lt_of_le_of_lt p0 (by decide)) (by omega)
  have t1 := eo_up1 (eo_times hf.2.1 e1 (Nat.lt_of_le_of_lt p1 (by decide)) (by omega)) (by omega)
  have t2 := eo_up1 (eo_times hf.2.2.1 e2 (Nat.lt_of_le_of_lt p2 (by decide)) (by omega)) (by omega)
  have p1' : (2 * (h.b1 * (2 * (czs h X i).w1))).natAbs ≤ 2 * (4 * (24 * 4096)) := by rw [Int.natAbs_mul]; exact Nat.mul_le_mul_left 2 p1
  have p2' : (2 * (h.b2 * (4 * (czs h X i).w2))).natAbs ≤ 2 * (4 * (12 * 4096)) := by rw [Int.natAbs_mul]; exact Nat.mul_le_mul_left 2 p2
  have hk := kin_new (kin (h := h) (X := X) i) (X i)
  have e : 2 * dz h X i = h.b0 * (2 * (czs h X (i + 1)).w1) + 2 * (h.b1 * (2 * (czs h X i).w1)) + 2 * (h.b2 * (4 * (czs h X i).w2)) := by
    show 2 * dNew h i (dzs h X i) (X i) = h.b0 * (2 * wNew h i (czs h X i) (X i)) + _ + _
    rw [hk]
    have m0 : h.b0 * (2 * wNew h i (czs h X i) (X i)) = 2 * (h.b0 * wNew h i (czs h X i) (X i)) := by ac_rfl
    have m1 : h.b1 * (2 * (czs h X i).w1) = 2 * (h.b1 * (czs h X i).w1) := by ac_rfl
    have m2 : h.b2 * (4 * (czs h X i).w2) = 4 * (h.b2 * (czs h X i).w2) := by ac_rfl
    rw [m0, m1, m2]
    omega
  rw [e]
  have z : EO .f32 (i + 1 + 1) (h.b0 * (2 * (czs h X (i + 1)).w1) + 2 * (h.b1 * (2 * (czs h X i).w1)) + 2 * (h.b2 * (4 * (czs h X i).w2)))
      (ad (ad (mu F.b0 (canW true F.a1 F.a2 (filM 2 true F noMem Z i).a (filM 2 true F noMem Z i).b (Z i))) (mu F.b1 (filM 2 true F noMem Z i).a)) (mu F.b2 (filM 2 true F noMem Z i).b)) :=
    (t0.add t1 (by rw [hb]; exact cy_b2 _ _ p0 p1')).add t2 (by rw [hb]; exact cy_b3 _ _ _ p0 p1' p2')
  exact eo_flush z (by omega)
def HZ.twice (h : HZ) : HZ := ⟨2 * h.b0, 2 * h.b1, 2 * h.b2, h.a1, h.a2⟩
theorem dz_twice (h : HZ) (X : Nat → Int) : ∀ i, (dzs h.twice X i).d1 = 2 * (dzs h X i).d1 ∧ (dzs h.twice X i).d2 = 2 * (dzs h X i).d2 ∧ (dzs h.twice X i).x1 = (dzs h X i).x1 ∧ (dzs h.twice X i).x2 = (dzs h X i).x2 ∧ dz h.twice X i = 2 * dz h X i
  | 0 => by
    refine ⟨rfl, rfl, rfl, rfl, ?_⟩
    simp only [dz, dNew, dzs, HZ.twice]
    simp
    ac_rfl
  | i + 1 => by
    obtain ⟨e1, e2, e3, e4, e5⟩ := dz_twice h X i
    refine ⟨e5, e1, rfl, e3, ?_⟩
    have f1 : (dzs h.twice X (i + 1)).d1 = 2 * (dzs h X (i + 1)).d1 := e5
    have f2 : (dzs h.twice X (i + 1)).d2 = 2 * (dzs h X (i + 1)).d2 := e1
    have f3 : (dzs h.twice X (i + 1)).x1 = (dzs h X (i + 1)).x1 := rfl
    have f4 : (dzs h.twice X (i + 1)).x2 = (dzs h X (i + 1)).x2 := e3
    unfold dz dNew
    rw [f1, f2, f3, f4]
    generalize (dzs h X (i + 1)).d1 = d1
    generalize (dzs h X (i + 1)).d2 = d2
    generalize (dzs h X (i + 1)).x1 = x1
    generalize (dzs h X (i + 1)).x2 = x2
    simp only [HZ.twice]
    generalize (2 : Int) ^ (i + 1) = p
    have m1 : p * (2 * h.b0 * X (i + 1) + 2 * h.b1 * x1 + 2 * h.b2 * x2) = 2 * (p * (h.b0 * X (i + 1) + h.b1 * x1 + h.b2 * x2)) := by
      simp only [Int.mul_add]
      congr 1
      · congr 1 <;> ac_rfl
      · ac_rfl
    have m2 : h.a1 * (2 * d1) = 2 * (h.a1 * d1) := by ac_rfl
    have m3 : h.a2 * (2 * (2 * d2)) = 2 * (h.a2 * (2 * d2)) := by ac_rfl
    rw [m1, m2, m3]
    omega
end Go.Proofs.Ytbhigpfpnbdilaa

/- Filters: a filter over samples in their places, the program's. -/
set_option linter.unusedVariables false
set_option linter.unusedSimpArgs false
namespace Go.Proofs.Ytbhigpfpnbdilaa
open Fl Go.RowKit
/-- a block of so many numbers, the first k of which are the new ones -/
def Pr (w : World) (g n k : Nat) (Y X : Nat → O) : Prop := ∃ xs : List Nat, xs.length = n ∧ Small xs ∧ GCells w g n (fv xs) ∧ ∀ j, j < n → ab .f32 (wd xs j) = if j < k then Y j else X j
section
variable {w w' : World} {g n k : Nat} {Y X : Nat → O}
theorem Pr.put (h : Pr w g n k Y X) (hk : k < n) {r : Nat} (hr : Hid (Fv .f32 r (Y k))) : Pr (w.setCell ⟨g, k, none⟩ (.float .f32 r)) g n (k + 1) Y X := by
  obtain ⟨xs, h1, h2, h3, h4⟩ := h
  refine ⟨xs.set k r, by rw [List.length_set, h1], fun x hx => ?_, (h3.set k _).congr (fun j hj => ?_), fun j hj => ?_⟩
  · rcases List.mem_or_eq_of_mem_set hx with h | rfl
    · exact h2 x h
    · exact hr.out.1
  · unfold fv wd
    by_cases e : j = k
    · subst e; rw [if_pos rfl]; simp [List.getD_eq_getElem?_getD, List.getElem?_set, h1, hj]
    · rw [if_neg e]; simp [List.getD_eq_getElem?_getD, List.getElem?_set, show ¬ (k = j) from fun h => e h.symm]
  · unfold wd
    by_cases e : j = k
    · subst e
      rw [if_pos (by omega)]
      simp [List.getD_eq_getElem?_getD, List.getElem?_set, h1, hk]
      exact hr.out.2
    · have := h4 j hj
      unfold wd at this
      rw [show (if j < k + 1 then Y j else X j) = if j < k then Y j else X j by by_cases e2 : j < k; rw [if_pos e2, if_pos (by omega)]; rw [if_neg e2, if_neg (by omega)]]
      simpa [List.getD_eq_getElem?_getD, List.getElem?_set, show ¬ (k = j) from fun h => e h.symm] using this
theorem Pr.keep (h : Pr w g n k Y X) (e : w'.heap[g]? = w.heap[g]?) : Pr w' g n k Y X := by
  obtain ⟨xs, h1, h2, ⟨cs, hb, hc⟩, h4⟩ := h
  exact ⟨xs, h1, h2, ⟨cs, e.trans hb, hc⟩, h4⟩
theorem Pr.lt (h : Pr w g n k Y X) : g < w.heap.size := by
  obtain ⟨xs, h1, h2, h3, h4⟩ := h
  exact h3.lt
theorem Pr.cell (h : Pr w g n k Y X) {j : Nat} (hj : j < n) (hk : k ≤ j) : ∃ x, w.cell? ⟨g, j, none⟩ = some (.float .f32 x) ∧ Hid (Fv .f32 x (X j)) := by
  obtain ⟨xs, h1, h2, h3, h4⟩ := h
  exact ⟨wd xs j, h3.cell hj, Lib.hid ⟨h2.at_ j, by rw [h4 j hj, if_neg (by omega)]⟩⟩
theorem Pr.free (h : Pr w g n k Y X) (j : Nat) : w.frozen? ⟨g, j, none⟩ = false := by
  obtain ⟨xs, h1, h2, h3, h4⟩ := h
  exact h3.free j
theorem Pr.done {lo : Nat} (h : Pr w g n n Y X) (hl : lo ≤ g) : ∃ xs, Gs 24 w lo (some ⟨g, 0, none⟩) n xs ∧ Are ⟨some ⟨g, 0, none⟩, n, xs⟩ Y := by
  obtain ⟨xs, h1, h2, ⟨cs, hb, hc⟩, h4⟩ := h
  exact ⟨xs, ⟨h1, h2, fun _ => ⟨g, cs, rfl, hl, hb, hc⟩⟩, fun j hj => by rw [h4 j hj, if_pos hj]⟩
theorem Pr.of {lo : Nat} {xs : List Nat} (h : Gs 24 w lo (some ⟨g, 0, none⟩) n xs) (h0 : 0 < n) (hx : ∀ j, j < n → ab .f32 (wd xs j) = X j) : lo ≤ g ∧ Pr w g n 0 Y X := by
  obtain ⟨h1, h2, h3⟩ := h
  obtain ⟨g', cs, e, hl, hb, hc⟩ := h3 h0
  injection e with e
  injection e with e1 _ _
  subst e1
  exact ⟨hl, xs, h1, h2, ⟨cs, hb, hc⟩, fun j hj => by rw [if_neg (by omega)]; exact hx j hj⟩
end
def isNext (form : Nat) (k : FuncId) : Prop := (form = 0 ∧ k = 19) ∨ (form = 1 ∧ k = 20) ∨ (form = 2 ∧ k = 21)
theorem next_step {form : Nat} {k : FuncId} (h : isNext form k) (fu : Bool) (f : FilN) (m : MemN) (x : Nat) (F : Fil) (M : Mem) (X : O) (w : World) (hF : FvF f F) (hM : FvM m M) (hx : Hid (Fv .f32 x X)) :
    Calls Try.prog 22 #[setV f fu, .func (.func k) #[] #[], m.val, .float .f32 x] w (StepPost w (stepY form fu F M X) (stepM form fu F M X)) := by
  rw [stepM_raw]
  rcases h with ⟨rfl, rfl⟩ | ⟨rfl, rfl⟩ | ⟨rfl, rfl⟩
  · exact nextDir_any fu f m x F M X w hF hM hx
  · exact nextTur_any fu f m x F M X w hF hM hx
  · exact nextCan_any fu f m x F M X w hF hM hx
set_option maxHeartbeats 8000000 in
set_option maxRecDepth 100000 in
theorem implRun_any (form : Nat) (kk : FuncId) (hform : isNext form kk) (fu : Bool) (f : FilN) (m : MemN) (F : Fil) (M : Mem) (A : Option Addr) (n c g lo : Nat) (X : Nat → O) (w : World) (hF : FvF f F) (hM : FvM m M) (hA : 0 < n → A = some ⟨g, 0, none⟩ ∧ lo ≤ g ∧ Pr w g n 0 (filY form fu F M X) X) (hn : n ≤ 256) (hlo : lo ≤ w.heap.size) :
    Calls Try.prog 16 #[setV f fu, .func (.func kk) #[] #[], m.val, .slice A n c] w fun e w' => ∃ m' : MemN, e = .returned m'.val ∧ FvM m' (filM form fu F M X n) ∧ (0 < n → Pr w' g n n (filY form fu F M X) X) ∧ w.Since lo w' ∧ (∀ i, i < w.heap.size → i ≠ g → w'.heap[i]? = w.heap[i]?) := by
  have HT := Lib.hid fun (m : MemN) (M : Mem) (x : Nat) (X : O) (v : World) (hM : FvM m M) (hx : Hid (Fv .f32 x X)) => next_step hform fu f m x F M X v hF hM hx
  have HA := Lib.hid hA; clear hA
  obtain ⟨b0, b1, b2, a1, a2⟩ := f
  obtain ⟨ma, mb, mc, md⟩ := m
  unfold MemN.val at *
  unfold setV at *
  go_enter Try.func16, Try.ntmps16
  go_wp2_with fail
  generalize hW1 : World.alloc w _ = W1
  generalize hW2 : World.alloc W1 _ = W2
  generalize hW3 : World.alloc W2 _ = W3
  have z1 : W1.heap.size = w.heap.size + 1 := by rw [← hW1]; simp
  have z2 : W2.heap.size = w.heap.size + 1 + 1 := by rw [← hW2]; simp [z1]
  have z3 : W3.heap.size = w.heap.size + 1 + 1 + 1 := by rw [← hW3]; simp [z2]
  have b0 : W1.heap[w.heap.size]? = some (.cells #[.float .f32 b0, .float .f32 b1, .float .f32 b2, .float .f32 a1, .float .f32 a2, .bool fu] 56 (0, 0)) := by rw [← hW1]; exact Go.Deep.blk_alloc_new _ _
  have b1 : MemB 54 W2 (w.heap.size + 1) ⟨ma, mb, mc, md⟩ := by rw [← hW2, ← z1]; exact MemB.new _ _ _ _ _ _
  have b2 : MemB 54 W3 (w.heap.size + 1 + 1) ⟨0, 0, 0, 0⟩ := by rw [← hW3, ← z2]; exact MemB.new _ _ _ _ _ _
  have s1 : w.Since w.heap.size W1 := by rw [← hW1]; exact (World.Since.refl _ _).alloc (Nat.le_refl _) _
  have s2 : W1.Since W1.heap.size W2 := by rw [← hW2]; exact (World.Since.refl _ _).alloc (Nat.le_refl _) _
  have s3 : W2.Since W2.heap.size W3 := by rw [← hW3]; exact (World.Since.refl _ _).alloc (Nat.le_refl _) _
  have C0 := Lib.hid (((s3.block _ (by omega)).trans (s2.block _ (by omega))).trans b0)
  have B1 := Lib.hid (b1.since s3 (by omega))
  have B2 := Lib.hid b2
  have S3 : Hid (w.Since w.heap.size W3) := Lib.hid ((s1.trans (since_mono s2 (by omega))).trans (since_mono s3 (by omega)))
  clear hW1 hW2 hW3 s1 s2 s3 b0 b1 b2 z1 z2
  go_loopw [13] (fun i wr => ∃ (k : Nat) (q : MemN), k ≤ n ∧ i = .int .i64 (k : Int) ∧ (0 < n → Pr wr g n k (filY form fu F M X) X) ∧ wr.heap[w.heap.size]? = W3.heap[w.heap.size]? ∧ MemB 54 wr (w.heap.size + 1) q ∧ MemB 54 wr (w.heap.size + 1 + 1) ⟨0, 0, 0, 0⟩ ∧ FvM q (filM form fu F M X k) ∧ w.Since lo wr ∧ (∀ i, i < w.heap.size → i ≠ g → wr.heap[i]? = w.heap[i]?) ∧ w.heap.size + 1 + 1 + 1 ≤ wr.heap.size) (fun i _ => n - (intOf i).toNat)
  case atStart => exact ⟨0, _, Nat.zero_le _, rfl, fun h => (HA.out h).2.2.keep (S3.out.block _ (HA.out h).2.2.lt), rfl, B1.out, B2.out, hM, since_mono S3.out hlo, fun i hi _ => S3.out.block i hi, by omega⟩
  case round =>
    obtain ⟨k, q, hk, rfl, hp, hc0, hb1, hb2, hq, hs, ho, hz⟩ := hrel
    have HP := Lib.hid hp; have HC0 := Lib.hid (hc0.trans C0.out); have HC9 := Lib.hid hc0; have HB1 := Lib.hid hb1; have HB2 := Lib.hid hb2; have HQ := Lib.hid hq; have HS := Lib.hid hs; have HO := Lib.hid ho
    clear hp hc0 hb1 hb2 hq hs ho
    by_cases hlt : k < n
    · obtain ⟨rfl, hlg, hpw⟩ := HA.out (by omega)
      have hgw := hpw.lt
      have hpk := HP.out (by omega)
      obtain ⟨x, hcell, hx⟩ := hpk.cell hlt (Nat.le_refl _)
      have hfg := hpk.free k
      have hggr : g < wr.heap.size := by omega
      have HPK := Lib.hid hpk
      have m0 := HB1.out.c0; have m1 := HB1.out.c1; have m2 := HB1.out.c2; have m3 := HB1.out.c3
      have k0 : wr.cell? ⟨w.heap.size, 0, none⟩ = some (.float .f32 b0) := by have := HC0.out; simp [World.cell?, this]
      have k1 : wr.cell? ⟨w.heap.size, 1, none⟩ = some (.float .f32 b1) := by have := HC0.out; simp [World.cell?, this]
      have k2 : wr.cell? ⟨w.heap.size, 2, none⟩ = some (.float .f32 b2) := by have := HC0.out; simp [World.cell?, this]
      have k3 : wr.cell? ⟨w.heap.size, 3, none⟩ = some (.float .f32 a1) := by have := HC0.out; simp [World.cell?, this]
      have k4 : wr.cell? ⟨w.heap.size, 4, none⟩ = some (.float .f32 a2) := by have := HC0.out; simp [World.cell?, this]
      have k5 : wr.cell? ⟨w.heap.size, 5, none⟩ = some (.bool fu) := by have := HC0.out; simp [World.cell?, this]
      clear hpk hpw
      go_wp2_with fail
      refine (HT.out q _ x (X k) wr HQ.out hx).mono ?_
      rintro e w2 ⟨y, ⟨ra, rb, rc, rd⟩, rfl, hy, hm, hs⟩
      have HM2 := Lib.hid hm
      have hsz := hs.size
      have P2 := Lib.hid (HPK.out.keep (hs.block _ hggr))
      have E1 := Lib.hid (HB1.out.since hs (by omega))
      have E2 := Lib.hid (HB2.out.since hs (by omega))
      have E0 := Lib.hid ((hs.block w.heap.size (by omega)).trans HC9.out)
      have T2 := Lib.hid (HS.out.trans (since_mono hs (show lo ≤ wr.heap.size by omega)))
      have O2 : Hid (∀ i, i < w.heap.size → i ≠ g → w2.heap[i]? = w.heap[i]?) := Lib.hid fun i hi hn => (hs.block i (by omega)).trans (HO.out i hi hn)
      clear hs hm hcell hfg m0 m1 m2 m3 k0 k1 k2 k3 k4 k5
      obtain ⟨x', hcell, _⟩ := P2.out.cell hlt (Nat.le_refl _)
      have hfg := P2.out.free k
      have m0 := E1.out.c0; have m1 := E1.out.c1; have m2 := E1.out.c2; have m3 := E1.out.c3
      have l0 := E1.out.free 0; have l1 := E1.out.free 1; have l2 := E1.out.free 2; have l3 := E1.out.free 3
      have hne : ¬ g = w.heap.size + 1 := by omega
      have hne2 : ¬ w.heap.size + 1 = g := by omega
      simp only [MemN.val_mk]
      have P3 := Lib.hid (P2.out.put hlt hy)
      have OO : Hid (On (w.heap.size + 1) (w2.setCell ⟨g, k, none⟩ (.float .f32 y)) (((((w2.setCell ⟨g, k, none⟩ (.float .f32 y)).setCell ⟨w.heap.size + 1, 0, none⟩ (.float .f32 ra)).setCell ⟨w.heap.size + 1, 1, none⟩ (.float .f32 rb)).setCell ⟨w.heap.size + 1, 2, none⟩ (.float .f32 rc)).setCell ⟨w.heap.size + 1, 3, none⟩ (.float .f32 rd))) := Lib.hid (((((On.refl _ _).set _ _).set _ _).set _ _).set _ _)
      have NB := Lib.hid ((E1.out.of (w' := w2.setCell ⟨g, k, none⟩ (.float .f32 y)) (Go.Deep.blk_setCell_other _ _ _ _ hne2)).set ra rb rc rd)
      have oth : Hid (∀ i, i < w2.heap.size → i ≠ g → (w2.setCell ⟨g, k, none⟩ (.float .f32 y)).heap[i]? = w2.heap[i]?) := Lib.hid fun i _ hn => Go.Deep.blk_setCell_other _ _ _ _ hn
      have hsz3 : (w2.setCell ⟨g, k, none⟩ (.float .f32 y)).heap.size = w2.heap.size := Go.Deep.nblk_setCell _ _ _
      go_wp2_with fail
      go_roundw
      case rel => exact ⟨k + 1, ⟨ra, rb, rc, rd⟩, by omega, by go_num, fun _ => P3.out.keep (OO.out.2 _ (by omega) hne), (OO.out.2 _ (by omega) (by omega)).trans ((oth.out _ (by omega) (by omega)).trans E0.out), NB.out, E2.out.of ((OO.out.2 _ (by omega) (by omega)).trans (oth.out _ (by omega) (by omega))), HM2.out, (T2.out.setCell hlg _).trans (since_mono OO.out.1 (by omega)), fun i hi hn => (OO.out.2 _ (by omega) (by omega)).trans ((oth.out _ (by omega) hn).trans (O2.out i hi hn)), by have := OO.out.1.size; omega⟩
      case measure => simp [intOf]; omega
    · obtain rfl : k = n := by omega
      have m0 := HB1.out.c0; have m1 := HB1.out.c1; have m2 := HB1.out.c2; have m3 := HB1.out.c3
      have n0 := HB2.out.c0; have n1 := HB2.out.c1; have n2 := HB2.out.c2; have n3 := HB2.out.c3
      have f0 := HB2.out.free 0; have f1 := HB2.out.free 1; have f2 := HB2.out.free 2; have f3 := HB2.out.free 3
      have OO : Hid (On (w.heap.size + 1 + 1) wr (((((wr.setCell ⟨w.heap.size + 1 + 1, 0, none⟩ (.float .f32 q.a)).setCell ⟨w.heap.size + 1 + 1, 1, none⟩ (.float .f32 q.b)).setCell ⟨w.heap.size + 1 + 1, 2, none⟩ (.float .f32 q.c)).setCell ⟨w.heap.size + 1 + 1, 3, none⟩ (.float .f32 q.d)))) := Lib.hid (((((On.refl _ _).set _ _).set _ _).set _ _).set _ _)
      have NB := Lib.hid (HB2.out.set q.a q.b q.c q.d)
      go_wp2_with fail
      generalize hV : World.setCell _ _ _ = V at *
      have g0 := NB.out.c0; have g1 := NB.out.c1; have g2 := NB.out.c2; have g3 := NB.out.c3
      exact bodyPost_ret (v := .agg #[.float .f32 q.a, .float .f32 q.b, .float .f32 q.c, .float .f32 q.d]) (by simp [results, Try.results16, go_sem, g0, g1, g2, g3]) rfl
        ⟨q, rfl, HQ.out, fun h => (HP.out h).keep (OO.out.2 _ (HP.out h).lt (by have := (HA.out h).2.2.lt; omega)), HS.out.trans (since_mono OO.out.1 (by omega)), fun i hi hn => (OO.out.2 _ (by omega) (by omega)).trans (HO.out i hi hn)⟩
end Go.Proofs.Ytbhigpfpnbdilaa

/- Filters: impulses, both sides. -/
set_option linter.unusedVariables false
set_option linter.unusedSimpArgs false
namespace Go.Proofs.Ytbhigpfpnbdilaa
open Fl Go.RowKit
def impX (k : Nat) : O := if k = 0 then some 1065353216 else some 0
def impL (n : Nat) : List Nat := (List.range n).map fun j => if j = 0 then 1065353216 else 0
theorem impL_wd {n j : Nat} (h : j < n) : wd (impL n) j = if j = 0 then 1065353216 else 0 := by unfold impL wd; simp [h]
theorem imp_are (n : Nat) (A : Option Addr) : Are ⟨A, n, impL n⟩ impX := fun j (hj : j < n) => by
  show ab .f32 (wd (impL n) j) = impX j
  rw [impL_wd hj]
  unfold impX
  by_cases e : j = 0
  · rw [if_pos e, if_pos e, ab32, if_neg (by decide)]
  · rw [if_neg e, if_neg e, ab32, if_neg (by decide)]
theorem imp_gs {w : World} {g n lo : Nat} (hl : lo ≤ g) (h : GCells w g n (fun j => .float .f32 (if j = 0 then 1065353216 else 0))) : Gs 24 w lo (some ⟨g, 0, none⟩) n (impL n) := by
  obtain ⟨cs, hb, hc⟩ := h
  refine ⟨by simp [impL], fun x hx => ?_, fun _ => ⟨g, cs, rfl, hl, hb, fun k hk => ?_⟩⟩
  · unfold impL at hx
    obtain ⟨j, _, rfl⟩ := List.mem_map.1 hx
    split <;> decide
  · rw [hc k hk]; unfold fv; rw [impL_wd hk]
theorem made_cells (w : World) (n : Nat) : GCells (w.alloc (.cells (madeCells #[.float .f32 0] n) 24)) w.heap.size n (fun _ => .float .f32 0) := by
  obtain ⟨cs, hb, _, hc⟩ := World.rowIs_made w (.float .f32 0) n 24
  exact ⟨cs, hb, fun j hj => hc j hj⟩
theorem noM_fv : FvM ⟨0, 0, 0, 0⟩ noM := fvNo
theorem stepOf_any (form : Nat) (hform : form ≤ 2) : ∃ kk, isNext form kk ∧ ∀ w, Calls Try.prog 13 #[.int .i64 (form : Int)] w fun e w' => e = .returned (.tuple #[.func (.func kk) #[] #[], .bool true]) ∧ w = w' := by
  match form, hform with
  | 0, _ => exact ⟨_, .inl ⟨rfl, rfl⟩, stepOf_Dir⟩
  | 1, _ => exact ⟨_, .inr (.inl ⟨rfl, rfl⟩), stepOf_Tur⟩
  | 2, _ => exact ⟨_, .inr (.inr ⟨rfl, rfl⟩), stepOf_Can⟩
end Go.Proofs.Ytbhigpfpnbdilaa

/- Filters: one filter over samples, the model's function, and what fails. -/
set_option linter.unusedVariables false
set_option linter.unusedSimpArgs false
namespace Go.Proofs.Ytbhigpfpnbdilaa
open Fl Go.RowKit
def PLMB (n0 : Nat) (f0 : Nat → O) (M : Mem) (b : Bool) (w : World) (e : Ending) (w' : World) : Prop :=
  ∃ (p : Ls) (c : Nat) (m : MemN), e = .returned (.tuple #[.slice p.A p.n c, m.val, .bool b]) ∧ p.n = n0 ∧ Gs 24 w' w.heap.size p.A p.n p.xs ∧ Are p f0 ∧ FvM m M ∧ w.Since w.heap.size w'
theorem PLMB.none_ {w w' : World} (s : w.Since w.heap.size w') (f0 : Nat → O) : PLMB 0 f0 noM false w (.returned (.tuple #[.slice none 0 0, .agg #[.float .f32 0, .float .f32 0, .float .f32 0, .float .f32 0], .bool false])) w' :=
  ⟨⟨none, 0, []⟩, 0, ⟨0, 0, 0, 0⟩, rfl, rfl, Gs.nil_, (fun k hk => by simp at hk), noM_fv, s⟩
end Go.Proofs.Ytbhigpfpnbdilaa

/- Draws: filters and memories of any numbers. -/
set_option linter.unusedVariables false
set_option linter.unusedSimpArgs false
namespace Go.Proofs.Ytbhigpfpnbdilaa
open Fl Go.RowKit
/-- a filter's block -/
def FilB (T : TypeId) (w : World) (b : Nat) (f : FilN) : Prop := w.heap[b]? = some (.cells #[.float .f32 f.b0, .float .f32 f.b1, .float .f32 f.b2, .float .f32 f.a1, .float .f32 f.a2] T (0, 0))
section
variable {T : TypeId} {w w' : World} {b : Nat} {f : FilN}
theorem FilB.lt (h : FilB T w b f) : b < w.heap.size := (Array.getElem?_eq_some_iff.1 h).1
theorem FilB.c0 (h : FilB T w b f) : w.cell? ⟨b, 0, none⟩ = some (.float .f32 f.b0) := by unfold FilB at h; simp [World.cell?, h]
theorem FilB.c1 (h : FilB T w b f) : w.cell? ⟨b, 1, none⟩ = some (.float .f32 f.b1) := by unfold FilB at h; simp [World.cell?, h]
theorem FilB.c2 (h : FilB T w b f) : w.cell? ⟨b, 2, none⟩ = some (.float .f32 f.b2) := by unfold FilB at h; simp [World.cell?, h]
theorem FilB.c3 (h : FilB T w b f) : w.cell? ⟨b, 3, none⟩ = some (.float .f32 f.a1) := by unfold FilB at h; simp [World.cell?, h]
theorem FilB.c4 (h : FilB T w b f) : w.cell? ⟨b, 4, none⟩ = some (.float .f32 f.a2) := by unfold FilB at h; simp [World.cell?, h]
theorem FilB.free (h : FilB T w b f) (q : Nat) : w.frozen? ⟨b, q, none⟩ = false := by unfold FilB at h; simp [World.frozen?, h]
theorem FilB.of (h : FilB T w b f) (e : w'.heap[b]? = w.heap[b]?) : FilB T w' b f := e.trans h
theorem FilB.since {B : Nat} (h : FilB T w b f) (s : w.Since B w') (hb : b < B) : FilB T w' b f := h.of (s.block b hb)
theorem FilB.on {g : Nat} (h : FilB T w b f) (s : On g w w') (hb : b ≠ g) : FilB T w' b f := h.of (s.2 b h.lt hb)
theorem FilB.s1 (h : FilB T w b f) (x : Nat) : FilB T (w.setCell ⟨b, 1, none⟩ (.float .f32 x)) b ⟨f.b0, x, f.b2, f.a1, f.a2⟩ := by unfold FilB at h ⊢; simp [World.setCell, Array.getElem?_modify, h]
theorem FilB.s2 (h : FilB T w b f) (x : Nat) : FilB T (w.setCell ⟨b, 2, none⟩ (.float .f32 x)) b ⟨f.b0, f.b1, x, f.a1, f.a2⟩ := by unfold FilB at h ⊢; simp [World.setCell, Array.getElem?_modify, h]
theorem FilB.s3 (h : FilB T w b f) (x : Nat) : FilB T (w.setCell ⟨b, 3, none⟩ (.float .f32 x)) b ⟨f.b0, f.b1, f.b2, x, f.a2⟩ := by unfold FilB at h ⊢; simp [World.setCell, Array.getElem?_modify, h]
theorem FilB.s4 (h : FilB T w b f) (x : Nat) : FilB T (w.setCell ⟨b, 4, none⟩ (.float .f32 x)) b ⟨f.b0, f.b1, f.b2, f.a1, x⟩ := by unfold FilB at h ⊢; simp [World.setCell, Array.getElem?_modify, h]
theorem FilB.all (h : FilB T w b f) (x y z u v : Nat) : FilB T (((((w.setCell ⟨b, 0, none⟩ (.float .f32 x)).setCell ⟨b, 1, none⟩ (.float .f32 y)).setCell ⟨b, 2, none⟩ (.float .f32 z)).setCell ⟨b, 3, none⟩ (.float .f32 u)).setCell ⟨b, 4, none⟩ (.float .f32 v)) b ⟨x, y, z, u, v⟩ := by unfold FilB at h ⊢; simp [World.setCell, Array.getElem?_modify, h]
theorem FilB.new (T : TypeId) (w : World) (x y z u v : Nat) : FilB T (w.alloc (.cells #[.float .f32 x, .float .f32 y, .float .f32 z, .float .f32 u, .float .f32 v] T)) w.heap.size ⟨x, y, z, u, v⟩ := Go.Deep.blk_alloc_new _ _
theorem FilB.at_ (h : FilB T w b f) : FilAt w b f := ⟨h.lt, h.c0, h.c1, h.c2, h.c3, h.c4⟩
theorem FilB.row (h : FilB T w b f) : w.rangeAt b 0 [.float .f32 f.b0, .float .f32 f.b1, .float .f32 f.b2, .float .f32 f.a1, .float .f32 f.a2] := by
  intro j x hj
  rw [Nat.zero_add]
  unfold FilB at h
  simp only [World.cell?, h]
  simpa using hj
theorem MemB.row {m : MemN} (h : MemB T w b m) : w.rangeAt b 0 [.float .f32 m.a, .float .f32 m.b, .float .f32 m.c, .float .f32 m.d] := by
  intro j x hj
  rw [Nat.zero_add]
  unfold MemB at h
  simp only [World.cell?, h]
  simpa using hj
theorem MemB.on {g : Nat} {m : MemN} (h : MemB T w b m) (s : On g w w') (hb : b ≠ g) : MemB T w' b m := h.of (s.2 b h.lt hb)
theorem MemB.t1 {m : MemN} (h : MemB T w b m) (x : Nat) : MemB T (w.setCell ⟨b, 1, none⟩ (.float .f32 x)) b ⟨m.a, x, m.c, m.d⟩ := by unfold MemB at h ⊢; simp [World.setCell, Array.getElem?_modify, h]
theorem MemB.t2 {m : MemN} (h : MemB T w b m) (x : Nat) : MemB T (w.setCell ⟨b, 2, none⟩ (.float .f32 x)) b ⟨m.a, m.b, x, m.d⟩ := by unfold MemB at h ⊢; simp [World.setCell, Array.getElem?_modify, h]
theorem MemB.t3 {m : MemN} (h : MemB T w b m) (x : Nat) : MemB T (w.setCell ⟨b, 3, none⟩ (.float .f32 x)) b ⟨m.a, m.b, m.c, x⟩ := by unfold MemB at h ⊢; simp [World.setCell, Array.getElem?_modify, h]
end
/-- what a call that has a block of its own changes -/
theorem Fl.On.own {b g : Nat} {w a : World} (h : On b w a) (hg : w.heap.size ≤ g) (hb : b < w.heap.size) (o : Nat) (v : Value) : On b w (a.setCell ⟨g, o, none⟩ v) :=
  on_post h ((World.Since.refl _ _).setCell (Nat.le_refl _) _) hg hb
theorem Src.own {B b K g : Nat} {w : World} (h : Src B b K w) (hg : b < g) (o : Nat) (v : Value) : Src B b K (w.setCell ⟨g, o, none⟩ v) :=
  h.on ((World.Since.refl _ _).setCell (show b + 1 ≤ g by omega) _)
theorem off_own {g r o : Nat} {v : Value} {w : World} (h : r ≠ g) : (w.setCell ⟨g, o, none⟩ v).heap[r]? = w.heap[r]? := Go.Deep.blk_setCell_other _ _ _ _ h
/-- a filter, a memory that was drawn -/
def PFil (B b K : Nat) (w : World) (e : Ending) (w' : World) : Prop := ∃ (f : FilN) (F : Fil), e = .returned f.val ∧ FvF f F ∧ Src B b K w' ∧ On b w w'
def PMem (B b K : Nat) (w : World) (e : Ending) (w' : World) : Prop := ∃ (f : MemN) (F : Mem), e = .returned f.val ∧ FvM f F ∧ Src B b K w' ∧ On b w w'
def PFilW (w : World) (e : Ending) (w' : World) : Prop := ∃ (f : FilN) (F : Fil), e = .returned f.val ∧ FvF f F ∧ w.Since w.heap.size w'
def PMemW (w : World) (e : Ending) (w' : World) : Prop := ∃ (f : MemN) (F : Mem), e = .returned f.val ∧ FvM f F ∧ w.Since w.heap.size w'
end Go.Proofs.Ytbhigpfpnbdilaa

/- Draws: memories; the draws of laws of filters. -/
set_option linter.unusedVariables false
set_option linter.unusedSimpArgs false
namespace Go.Proofs.Ytbhigpfpnbdilaa
open Fl Go.RowKit
theorem sinceSet {w a : World} (h : w.Since w.heap.size a) (o : Nat) (v : Value) : w.Since w.heap.size (a.setCell ⟨w.heap.size, o, none⟩ v) := h.setCell (Nat.le_refl _) _
end Go.Proofs.Ytbhigpfpnbdilaa

/- Draws: a filter of halves, small whole numbers. -/
set_option linter.unusedVariables false
set_option linter.unusedSimpArgs false
namespace Go.Proofs.Ytbhigpfpnbdilaa
open Fl Go.RowKit Ieee
theorem half_tab : ∀ v : Nat, v < 5 → exB .f32 1 ((v : Int) - 2) (opO .quo .f32 (some (fI ((v : Int) - 2))) (some 1073741824)) = true := by decide +kernel
theorem half_eo {v : Int} (h1 : 0 ≤ v) (h2 : v < 5) : EO .f32 1 (v - 2) (opO .quo .f32 (some (fI (v - 2))) (some 1073741824)) := by
  obtain ⟨k, rfl⟩ := Int.eq_ofNat_of_zero_le h1
  exact exB_EO (half_tab k (by omega))
/-- a filter in halves that was drawn -/
def PHal (w : World) (e : Ending) (w' : World) : Prop := ∃ (f : FilN) (F : Fil) (h : HZ), e = .returned f.val ∧ FvF f F ∧ h.le 2 ∧ h.of F ∧ w.Since w.heap.size w'
set_option maxHeartbeats 4000000 in
set_option maxRecDepth 100000 in
theorem halves_any (A : Option Addr) (n c : Nat) (xs : List Int) (w : World) (hh : Bs w w.heap.size A n xs) (hn : n ≤ 1048576) :
    Calls Try.prog 5 #[.slice A n c] w (PHal w) := by
  have HH := Lib.hid hh; clear hh
  have q2 : Hid (Fv .f32 1073741824 (some 1073741824)) := fvc (by decide) (by decide)
  go_enter Try.func5, Try.ntmps5
  go_wp2_with fail
  generalize hW : World.alloc w _ = W0
  have z0 : W0.heap.size = w.heap.size + 1 := by rw [← hW]; simp
  have R0 : Hid (FilB 26 W0 w.heap.size ⟨0, 0, 0, 0, 0⟩) := Lib.hid (by rw [← hW]; exact FilB.new _ _ _ _ _ _ _)
  have T0 : Hid (w.Since w.heap.size W0) := Lib.hid (by rw [← hW]; exact (World.Since.refl _ _).alloc (Nat.le_refl _) _)
  clear hW
  refine (source_any A n c xs W0 ((HH.out.since T0.out (Nat.le_refl _)).more T0.out.size) hn).mono ?_
  rintro e w1 ⟨rfl, s1, t1⟩
  obtain ⟨b, hb⟩ : ∃ b, b = W0.heap.size := ⟨_, rfl⟩
  rw [← hb] at s1 ⊢
  have S1 : Hid (Src b b 0 w1) := Lib.hid s1
  have R1 := Lib.hid (R0.out.since t1 (by omega)); have T1 := Lib.hid (T0.out.trans (since_mono t1 (by omega)))
  have hbw : w.heap.size < b := by omega
  have zb : b < w1.heap.size := s1.lt
  clear s1 t1 R0 T0 hb z0
  have O1 : Hid (On b w1 w1) := Lib.hid (On.refl _ _)
  go_wp2_with fail
  refine (pick_any b b (0) 5 w1 S1.out (by omega) (by omega)).mono ?_
  rintro e w2 ⟨v0, rfl, u1, u2, s, o⟩
  have u3 := u2 (by omega)
  clear u2
  have E0 := Lib.hid (half_eo u1 u3)
  have L0 : Hid ((v0 - 2).natAbs ≤ 2) := Lib.hid (by omega)
  have zz0 : w1.heap.size ≤ w2.heap.size := o.1.size
  have R2 := Lib.hid (R1.out.on o (by omega)); have T2 := Lib.hid (T1.out.trans (o.since (by omega))); have S2 := Lib.hid s
  clear s o R1 T1 S1 O1
  have qq := fI_fv (v0 - 2)
  go_wp2_with (with_reducible_and_instances refine Lo.wpList_fo _ rfl _ _ _ _ _ rfl _ _ _ _ _ rfl rfl rfl (by assumption) (by assumption) ?_; intro rr nn hrr)
  obtain ⟨x0, hnm⟩ : ∃ r, r = rr := ⟨_, rfl⟩
  obtain ⟨Q0, hQ⟩ : ∃ Q, Q = opO .quo .f32 (some (fI (v0 - 2))) (some 1073741824) := ⟨_, rfl⟩
  have hx0 : Hid (Fv .f32 x0 Q0) := by rw [hnm, hQ]; exact hrr
  have e0 : Hid (EO .f32 1 (v0 - 2) Q0) := Lib.hid (by rw [hQ]; exact E0.out)
  rw [← hnm]
  clear hnm hQ hrr qq u1 u3 E0
  generalize hW : World.drewN _ _ = V2
  obtain ⟨q, hq⟩ : ∃ q, q = w2.heap.size := ⟨_, rfl⟩
  rw [← hq]
  have F2 : Hid (FilB 26 V2 q ⟨x0, 0, 0, 0, 0⟩) := Lib.hid (by rw [← hW, hq]; exact FilB.of (FilB.new _ _ _ _ _ _ _) rfl)
  have hs : w2.Since w2.heap.size V2 := by rw [← hW]; exact since_drewN ((World.Since.refl _ _).alloc (Nat.le_refl _) _) _
  have y2 : V2.heap.size = q + 1 := by rw [← hW, hq]; show (w2.alloc _).heap.size = _; simp
  have R2' := Lib.hid (R2.out.since hs (by omega)); have T2' := Lib.hid (T2.out.trans (since_mono hs (by omega))); have S2' := Lib.hid (S2.out.on (since_mono hs (by omega)))
  have hqb : b < q := by omega
  have hqr : w.heap.size < q := by omega
  clear hq hW hs R2 T2 S2; have R2 := R2'; have T2 := T2'; have S2 := S2'; clear R2' T2' S2'
  refine (pick_any b b (0 + 2) 5 V2 S2.out (by omega) (by omega)).mono ?_
  rintro e w3 ⟨v1, rfl, u1, u2, s, o⟩
  have u3 := u2 (by omega)
  clear u2
  have E1 := Lib.hid (half_eo u1 u3)
  have L1 : Hid ((v1 - 2).natAbs ≤ 2) := Lib.hid (by omega)
  have zz1 : V2.heap.size ≤ w3.heap.size := o.1.size
  have Fa := Lib.hid (F2.out.on o (by omega)); have Ra := Lib.hid (R2.out.on o (by omega)); have Ta := Lib.hid (T2.out.trans (o.since (by omega))); have Sa := Lib.hid s
  clear s o F2 R2 T2 S2
  have cc := Fa.out.c1; have ff := Fa.out.free 1
  have qq := fI_fv (v1 - 2)
  go_wp2_with (with_reducible_and_instances refine Lo.wpList_fo _ rfl _ _ _ _ _ rfl _ _ _ _ _ rfl rfl rfl (by assumption) (by assumption) ?_; intro rr nn hrr)
  obtain ⟨x1, hnm⟩ : ∃ r, r = rr := ⟨_, rfl⟩
  obtain ⟨Q1, hQ⟩ : ∃ Q, Q = opO .quo .f32 (some (fI (v1 - 2))) (some 1073741824) := ⟨_, rfl⟩
  have hx1 : Hid (Fv .f32 x1 Q1) := by rw [hnm, hQ]; exact hrr
  have e1 : Hid (EO .f32 1 (v1 - 2) Q1) := Lib.hid (by rw [hQ]; exact E1.out)
  rw [← hnm]
  clear hnm hQ hrr qq u1 u3 E1
  generalize hW : World.drewN _ _ = V3
  have F3 : Hid (FilB 26 V3 q ⟨x0, x1, 0, 0, 0⟩) := Lib.hid (by rw [← hW]; exact FilB.of (Fa.out.s1 _) rfl)
  have R3 : Hid (FilB 26 V3 w.heap.size ⟨0, 0, 0, 0, 0⟩) := Lib.hid (by rw [← hW]; exact FilB.of (w := w3.setCell ⟨q, 1, none⟩ (.float .f32 x1)) (Ra.out.of (off_own (by omega))) rfl)
  have T3 : Hid (w.Since w.heap.size V3) := Lib.hid (by rw [← hW]; exact since_drewN (Ta.out.setCell (by show w.heap.size ≤ q; omega) _) _)
  have S3 : Hid (Src b b (0 + 2 + 2) V3) := Lib.hid (by rw [← hW]; exact (Sa.out.own hqb _ _).drewN _)
  have zv3 : V3.heap.size = w3.heap.size := by rw [← hW]; exact Go.Deep.nblk_setCell _ _ _
  clear hW cc ff Fa Ra Ta Sa
  refine (pick_any b b (0 + 2 + 2) 5 V3 S3.out (by omega) (by omega)).mono ?_
  rintro e w4 ⟨v2, rfl, u1, u2, s, o⟩
  have u3 := u2 (by omega)
  clear u2
  have E2 := Lib.hid (half_eo u1 u3)
  have L2 : Hid ((v2 - 2).natAbs ≤ 2) := Lib.hid (by omega)
  have zz2 : V3.heap.size ≤ w4.heap.size := o.1.size
  have Fa := Lib.hid (F3.out.on o (by omega)); have Ra := Lib.hid (R3.out.on o (by omega)); have Ta := Lib.hid (T3.out.trans (o.since (by omega))); have Sa := Lib.hid s
  clear s o F3 R3 T3 S3
  have cc := Fa.out.c2; have ff := Fa.out.free 2
  have qq := fI_fv (v2 - 2)
  go_wp2_with (with_reducible_and_instances refine Lo.wpList_fo _ rfl _ _ _ _ _ rfl _ _ _ _ _ rfl rfl rfl (by assumption) (by assumption) ?_; intro rr nn hrr)
  obtain ⟨x2, hnm⟩ : ∃ r, r = rr := ⟨_, rfl⟩
  obtain ⟨Q2, hQ⟩ : ∃ Q, Q = opO .quo .f32 (some (fI (v2 - 2))) (some 1073741824) := ⟨_, rfl⟩
  have hx2 : Hid (Fv .f32 x2 Q2) := by rw [hnm, hQ]; exact hrr
  have e2 : Hid (EO .f32 1 (v2 - 2) Q2) := Lib.hid (by rw [hQ]; exact E2.out)
  rw [← hnm]
  clear hnm hQ hrr qq u1 u3 E2
  generalize hW : World.drewN _ _ = V4
  have F4 : Hid (FilB 26 V4 q ⟨x0, x1, x2, 0, 0⟩) := Lib.hid (by rw [← hW]; exact FilB.of (Fa.out.s2 _) rfl)
  have R4 : Hid (FilB 26 V4 w.heap.size ⟨0, 0, 0, 0, 0⟩) := Lib.hid (by rw [← hW]; exact FilB.of (w := w4.setCell ⟨q, 2, none⟩ (.float .f32 x2)) (Ra.out.of (off_own (by omega))) rfl)
  have T4 : Hid (w.Since w.heap.size V4) := Lib.hid (by rw [← hW]; exact since_drewN (Ta.out.setCell (by show w.heap.size ≤ q; omega) _) _)
  have S4 : Hid (Src b b (0 + 2 + 2 + 2) V4) := Lib.hid (by rw [← hW]; exact (Sa.out.own hqb _ _).drewN _)
  have zv4 : V4.heap.size = w4.heap.size := by rw [← hW]; exact Go.Deep.nblk_setCell _ _ _
  clear hW cc ff Fa Ra Ta Sa
  refine (pick_any b b (0 + 2 + 2 + 2) 5 V4 S4.out (by omega) (by omega)).mono ?_
  rintro e w5 ⟨v3, rfl, u1, u2, s, o⟩
  have u3 := u2 (by omega)
  clear u2
  have E3 := Lib.hid (half_eo u1 u3)
  have L3 : Hid ((v3 - 2).natAbs ≤ 2) := Lib.hid (by omega)
  have zz3 : V4.heap.size ≤ w5.heap.size := o.1.size
  have Fa := Lib.hid (F4.out.on o (by omega)); have Ra := Lib.hid (R4.out.on o (by omega)); have Ta := Lib.hid (T4.out.trans (o.since (by omega))); have Sa := Lib.hid s
  clear s o F4 R4 T4 S4
  have cc := Fa.out.c3; have ff := Fa.out.free 3
  have qq := fI_fv (v3 - 2)
  go_wp2_with (with_reducible_and_instances refine Lo.wpList_fo _ rfl _ _ _ _ _ rfl _ _ _ _ _ rfl rfl rfl (by assumption) (by assumption) ?_; intro rr nn hrr)
  obtain ⟨x3, hnm⟩ : ∃ r, r = rr := ⟨_, rfl⟩
  obtain ⟨Q3, hQ⟩ : ∃ Q, Q = opO .quo .f32 (some (fI (v3 - 2))) (some 1073741824) := ⟨_, rfl⟩
  have hx3 : Hid (Fv .f32 x3 Q3) := by rw [hnm, hQ]; exact hrr
  have e3 : Hid (EO .f32 1 (v3 - 2) Q3) := Lib.hid (by rw [hQ]; exact E3.out)
  rw [← hnm]
  clear hnm hQ hrr qq u1 u3 E3
  generalize hW : World.drewN _ _ = V5
  have F5 : Hid (FilB 26 V5 q ⟨x0, x1, x2, x3, 0⟩) := Lib.hid (by rw [← hW]; exact FilB.of (Fa.out.s3 _) rfl)
  have R5 : Hid (FilB 26 V5 w.heap.size ⟨0, 0, 0, 0, 0⟩) := Lib.hid (by rw [← hW]; exact FilB.of (w := w5.setCell ⟨q, 3, none⟩ (.float .f32 x3)) (Ra.out.of (off_own (by omega))) rfl)
  have T5 : Hid (w.Since w.heap.size V5) := Lib.hid (by rw [← hW]; exact since_drewN (Ta.out.setCell (by show w.heap.size ≤ q; omega) _) _)
  have S5 : Hid (Src b b (0 + 2 + 2 + 2 + 2) V5) := Lib.hid (by rw [← hW]; exact (Sa.out.own hqb _ _).drewN _)
  have zv5 : V5.heap.size = w5.heap.size := by rw [← hW]; exact Go.Deep.nblk_setCell _ _ _
  clear hW cc ff Fa Ra Ta Sa
  refine (pick_any b b (0 + 2 + 2 + 2 + 2) 5 V5 S5.out (by omega) (by omega)).mono ?_
  rintro e w6 ⟨v4, rfl, u1, u2, s, o⟩
  have u3 := u2 (by omega)
  clear u2
  have E4 := Lib.hid (half_eo u1 u3)
  have L4 : Hid ((v4 - 2).natAbs ≤ 2) := Lib.hid (by omega)
  have zz4 : V5.heap.size ≤ w6.heap.size := o.1.size
  have Fa := Lib.hid (F5.out.on o (by omega)); have Ra := Lib.hid (R5.out.on o (by omega)); have Ta := Lib.hid (T5.out.trans (o.since (by omega))); have Sa := Lib.hid s
  clear s o F5 R5 T5 S5
  have cc := Fa.out.c4; have ff := Fa.out.free 4
  rename (∀ (a : Act) (w : World), Code.wp Try.prog _ _ a w → _) => ak
  have AK := Lib.hid ak; clear ak
  have qq := fI_fv (v4 - 2)
  go_wp2_with (with_reducible_and_instances refine Lo.wpList_fo _ rfl _ _ _ _ _ rfl _ _ _ _ _ rfl rfl rfl (by assumption) (by assumption) ?_; intro rr nn hrr)
  obtain ⟨x4, hnm⟩ : ∃ r, r = rr := ⟨_, rfl⟩
  obtain ⟨Q4, hQ⟩ : ∃ Q, Q = opO .quo .f32 (some (fI (v4 - 2))) (some 1073741824) := ⟨_, rfl⟩
  have hx4 : Hid (Fv .f32 x4 Q4) := by rw [hnm, hQ]; exact hrr
  have e4 : Hid (EO .f32 1 (v4 - 2) Q4) := Lib.hid (by rw [hQ]; exact E4.out)
  rw [← hnm]
  clear hnm hQ hrr qq u1 u3 E4
  generalize hW : World.drewN _ _ = V6
  have F6 : Hid (FilB 26 V6 q ⟨x0, x1, x2, x3, x4⟩) := Lib.hid (by rw [← hW]; exact FilB.of (Fa.out.s4 _) rfl)
  have R6 : Hid (FilB 26 V6 w.heap.size ⟨0, 0, 0, 0, 0⟩) := Lib.hid (by rw [← hW]; exact FilB.of (w := w6.setCell ⟨q, 4, none⟩ (.float .f32 x4)) (Ra.out.of (off_own (by omega))) rfl)
  have T6 : Hid (w.Since w.heap.size V6) := Lib.hid (by rw [← hW]; exact since_drewN (Ta.out.setCell (by show w.heap.size ≤ q; omega) _) _)
  have S6 : Hid (Src b b (0 + 2 + 2 + 2 + 2 + 2) V6) := Lib.hid (by rw [← hW]; exact (Sa.out.own hqb _ _).drewN _)
  have zv6 : V6.heap.size = w6.heap.size := by rw [← hW]; exact Go.Deep.nblk_setCell _ _ _
  clear hW cc ff Fa Ra Ta Sa
  have c0 := F6.out.c0; have c1 := F6.out.c1; have c2 := F6.out.c2; have c3 := F6.out.c3; have c4 := F6.out.c4; have zw := F6.out.lt
  have r0 := R6.out.c0; have r1 := R6.out.c1; have r2 := R6.out.c2; have r3 := R6.out.c3; have r4 := R6.out.c4
  have l0 := R6.out.free 0; have l1 := R6.out.free 1; have l2 := R6.out.free 2; have l3 := R6.out.free 3; have l4 := R6.out.free 4
  have NB := Lib.hid (R6.out.all x0 x1 x2 x3 x4)
  have SS := Lib.hid (sinceSet (sinceSet (sinceSet (sinceSet (sinceSet (T6.out) 0 (.float .f32 x0)) 1 (.float .f32 x1)) 2 (.float .f32 x2)) 3 (.float .f32 x3)) 4 (.float .f32 x4))
  refine AK.out _ _ ?_
  go_wp2_with fail
  generalize hV : World.setCell _ _ _ = V at *
  have g0 := NB.out.c0; have g1 := NB.out.c1; have g2 := NB.out.c2; have g3 := NB.out.c3; have g4 := NB.out.c4
  exact bodyPost_ret (v := .agg #[.float .f32 x0, .float .f32 x1, .float .f32 x2, .float .f32 x3, .float .f32 x4]) (by simp [results, Try.results5, go_sem, g0, g1, g2, g3, g4]) rfl ⟨⟨x0, x1, x2, x3, x4⟩, ⟨Q0, Q1, Q2, Q3, Q4⟩, ⟨v0 - 2, v1 - 2, v2 - 2, v3 - 2, v4 - 2⟩, rfl, ⟨hx0, hx1, hx2, hx3, hx4⟩, ⟨L0.out, L1.out, L2.out, L3.out, L4.out⟩, ⟨e0.out, e1.out, e2.out, e3.out, e4.out⟩, SS.out⟩
end Go.Proofs.Ytbhigpfpnbdilaa

/- What a law holds: entries, each with the blocks it lies in, apart from one another. Lists of floats and of integers anywhere in a block. -/
set_option linter.unusedVariables false
set_option linter.unusedSimpArgs false
namespace Go.Proofs.Ytbhigpfpnbdilaa
namespace Fl
/-- an entry: what it says of a world, and the blocks that it speaks of -/
structure En where
  P : World → Prop
  S : Nat → Prop
/-- it lies in blocks of the law's own, from B on, and speaks of these alone -/
def Ge (B : Nat) (w : World) (e : En) : Prop := e.P w ∧ (∀ w w' : World, (∀ g, e.S g → w'.heap[g]? = w.heap[g]?) → e.P w → e.P w') ∧ ∀ g, e.S g → B ≤ g ∧ g < w.heap.size
section
variable {B : Nat} {v v' : World} {p q : En} {r : List En}
theorem Ge.keep (h : Ge B v p) (hs : ∀ g, p.S g → v'.heap[g]? = v.heap[g]?) (hz : v.heap.size ≤ v'.heap.size) : Ge B v' p :=
  ⟨h.2.1 v v' hs h.1, h.2.1, fun g hg => ⟨(h.2.2 g hg).1, Nat.lt_of_lt_of_le (h.2.2 g hg).2 hz⟩⟩
theorem Ge.since (h : Ge B v p) (hs : v.Since v.heap.size v') : Ge B v' p := h.keep (fun g hg => hs.block g (h.2.2 g hg).2) hs.size
theorem Ge.less {b : Nat} (h : Ge B v p) (hb : b ≤ B) : Ge b v p := ⟨h.1, h.2.1, fun g hg => ⟨Nat.le_trans hb (h.2.2 g hg).1, (h.2.2 g hg).2⟩⟩
/-- two entries lie in different blocks -/
def De (p q : En) : Prop := ∀ g, p.S g → q.S g → False
theorem De.symm (h : De p q) : De q p := fun g a b => h g b a
def He (B : Nat) (v : World) : List En → Prop
  | [] => True
  | p :: r => (Ge B v p ∧ ∀ q ∈ r, De p q) ∧ He B v r
theorem He.at_ : ∀ {r : List En} (h : He B v r) {p : En}, p ∈ r → Ge B v p
  | _ :: _, h, _, .head _ => h.1.1
  | _ :: _, h, _, .tail _ hp => He.at_ h.2 hp
theorem He.since : ∀ {r : List En} (h : He B v r) (hs : v.Since v.heap.size v'), He B v' r
  | [], _, _ => trivial
  | _ :: _, h, hs => ⟨⟨h.1.1.since hs, h.1.2⟩, He.since h.2 hs⟩
theorem He.less {b : Nat} : ∀ {r : List En} (h : He B v r) (hb : b ≤ B), He b v r
  | [], _, _ => trivial
  | _ :: _, h, hb => ⟨⟨h.1.1.less hb, h.1.2⟩, He.less h.2 hb⟩
theorem He.new (h : He B v r) (hs : v.Since v.heap.size v') (g : Ge v.heap.size v' p) (hB : B ≤ v.heap.size) : He B v' (p :: r) :=
  ⟨⟨g.less hB, fun q hq b h1 h2 => by
    have h3 := (g.2.2 b h1).1
    have h4 := ((h.at_ hq).2.2 b h2).2
    omega⟩, h.since hs⟩
theorem He.new2 (h : He B v r) (hs : v.Since v.heap.size v') (g : Ge v.heap.size v' p) (k : Ge v.heap.size v' q) (hd : De p q) (hB : B ≤ v.heap.size) : He B v' (p :: q :: r) := by
  have h1 := h.new hs g hB
  have h2 := h.new hs k hB
  refine ⟨⟨h1.1.1, fun s hs => ?_⟩, h2⟩
  rcases List.mem_cons.1 hs with rfl | hs
  · exact hd
  · exact h1.1.2 s hs
theorem He.mark_hd {p' : En} (h : He B v (p :: r)) (g : Ge B v' p') (hS : p'.S = p.S) (ho : ∀ g, ¬ p.S g → v'.heap[g]? = v.heap[g]?) (hz : v.heap.size ≤ v'.heap.size) : He B v' (p' :: r) := by
  refine ⟨⟨g, fun q hq b h1 h2 => h.1.2 q hq b (hS ▸ h1) h2⟩, ?_⟩
  have hd := h.1.2
  have ht := h.2
  clear h
  induction r with
  | nil => trivial
  | cons q r ih =>
    refine ⟨⟨?_, ht.1.2⟩, ih (fun q' hq' => hd q' (.tail _ hq')) ht.2⟩
    exact ht.1.1.keep (fun b hb => ho b fun hp => hd q (.head _) b hp hb) hz
theorem He.swap (h : He B v (p :: q :: r)) : He B v (q :: p :: r) := by
  obtain ⟨⟨h1, h2⟩, ⟨h3, h4⟩, h5⟩ := h
  refine ⟨⟨h3, fun s hs => ?_⟩, ⟨h1, fun s hs => h2 s (.tail _ hs)⟩, h5⟩
  rcases List.mem_cons.1 hs with rfl | hs
  · exact (h2 q (.head _)).symm
  · exact h4 s hs
theorem He.front {l : List En} : ∀ (k : List En), He B v (k ++ p :: l) → He B v (p :: (k ++ l))
  | [], h => h
  | q :: k, h => by
    have h2 : He B v (p :: (k ++ l)) := He.front k h.2
    have h3 : He B v (q :: p :: (k ++ l)) := ⟨⟨h.1.1, fun s hs => h.1.2 s (by
      rcases List.mem_cons.1 hs with rfl | hs
      · simp
      · rcases List.mem_append.1 hs with h4 | h4
        · simp [h4]
        · simp [h4])⟩, h2⟩
    exact h3.swap
end
/-- cells of one block: their type, where they begin, how many, what they are -/
def ce (T : TypeId) (A : Option Addr) (n : Nat) (f : Nat → Value) (ok : Prop) : En :=
  ⟨fun w => ok ∧ (0 < n → ∃ g off cs, A = some ⟨g, off, none⟩ ∧ w.heap[g]? = some (.cells cs T (0, 0)) ∧ ∀ k, k < n → cs[off + k]? = some (f k)), fun g => 0 < n ∧ ∃ off, A = some ⟨g, off, none⟩⟩
theorem ce_frame {T : TypeId} {A : Option Addr} {n : Nat} {f : Nat → Value} {ok : Prop} (w w' : World) (h : ∀ g, (ce T A n f ok).S g → w'.heap[g]? = w.heap[g]?) (hp : (ce T A n f ok).P w) : (ce T A n f ok).P w' :=
  ⟨hp.1, fun hn => by
    obtain ⟨g, off, cs, e, hb, hc⟩ := hp.2 hn
    exact ⟨g, off, cs, e, (h g ⟨hn, off, e⟩).trans hb, hc⟩⟩
theorem ce_ge {T : TypeId} {A : Option Addr} {n B : Nat} {f : Nat → Value} {ok : Prop} {w : World} (ho : ok) (h : 0 < n → ∃ g off cs, A = some ⟨g, off, none⟩ ∧ B ≤ g ∧ w.heap[g]? = some (.cells cs T (0, 0)) ∧ ∀ k, k < n → cs[off + k]? = some (f k)) : Ge B w (ce T A n f ok) :=
  ⟨⟨ho, fun hn => by obtain ⟨g, off, cs, e, _, hb, hc⟩ := h hn; exact ⟨g, off, cs, e, hb, hc⟩⟩, ce_frame, fun g ⟨hn, off, e⟩ => by
    obtain ⟨g', off', cs, e', hB, hb, hc⟩ := h hn
    rw [e] at e'
    injection e' with e'
    injection e' with e' _ _
    subst e'
    exact ⟨hB, (Array.getElem?_eq_some_iff.1 hb).1⟩⟩
theorem Ge.ce {T : TypeId} {A : Option Addr} {n B : Nat} {f : Nat → Value} {ok : Prop} {w : World} (h : Ge B w (ce T A n f ok)) (hn : 0 < n) : ∃ g off cs, A = some ⟨g, off, none⟩ ∧ B ≤ g ∧ g < w.heap.size ∧ w.heap[g]? = some (.cells cs T (0, 0)) ∧ ∀ k, k < n → cs[off + k]? = some (f k) := by
  obtain ⟨g, off, cs, e, hb, hc⟩ := h.1.2 hn
  have := h.2.2 g ⟨hn, off, e⟩
  exact ⟨g, off, cs, e, this.1, this.2, hb, hc⟩
def fe (A : Option Addr) (n : Nat) (xs : List Nat) : En := ce 24 A n (fv xs) (xs.length = n ∧ Small xs)
def ie (A : Option Addr) (n : Nat) (xs : List Int) : En := ce 2 A n (iv xs) (xs.length = n)
theorem Gs.toE {w : World} {lo n : Nat} {A : Option Addr} {xs : List Nat} (h : Gs 24 w lo A n xs) : Ge lo w (fe A n xs) :=
  ce_ge ⟨h.1, h.2.1⟩ fun hn => by
    obtain ⟨g, cs, e, hg, hb, hc⟩ := h.2.2 hn
    exact ⟨g, 0, cs, e, hg, hb, fun k hk => by rw [Nat.zero_add]; exact hc k hk⟩
theorem IGs.toE {w : World} {lo n : Nat} {A : Option Addr} {xs : List Int} (h : IGs 2 w lo A n xs) : Ge lo w (ie A n xs) :=
  ce_ge h.1 fun hn => by
    obtain ⟨g, cs, e, hg, hb, hc⟩ := h.2 hn
    exact ⟨g, 0, cs, e, hg, hb, fun k hk => by rw [Nat.zero_add]; exact hc k hk⟩
theorem Ge.readF {w : World} {lo n : Nat} {A : Option Addr} {xs : List Nat} (h : Ge lo w (fe A n xs)) : Fs w w.heap.size A n xs :=
  ⟨h.1.1.1, h.1.1.2, fun hn => by
    obtain ⟨g, off, cs, e, hg, hl, hb, hc⟩ := h.ce hn
    refine ⟨g, off, e, hl, fun k hk => ?_⟩
    simp only [World.cell?, hb]
    simpa using hc k hk⟩
theorem Ge.readI {w : World} {lo n : Nat} {A : Option Addr} {xs : List Int} (h : Ge lo w (ie A n xs)) : Is w w.heap.size A n xs :=
  ⟨h.1.1, fun hn => by
    obtain ⟨g, off, cs, e, hg, hl, hb, hc⟩ := h.ce hn
    refine ⟨g, off, e, hl, fun k hk => ?_⟩
    simp only [World.cell?, hb]
    simpa using hc k hk⟩
end Fl
open Fl Go.RowKit
end Go.Proofs.Ytbhigpfpnbdilaa

/- Boxes of a law; two lists given back. -/
set_option linter.unusedVariables false
set_option linter.unusedSimpArgs false
namespace Go.Proofs.Ytbhigpfpnbdilaa
open Fl Go.RowKit
/-- a struct in a box of its own -/
def bxv (T : TypeId) (g : Nat) (vs : List Value) : En := ⟨fun w => w.heap[g]? = some (.cells vs.toArray T (0, 0)), fun b => b = g⟩
def bxf (T : TypeId) (g : Nat) (xs : List Nat) : En := bxv T g (xs.map fun x => Value.float .f32 x)
theorem Fl.Ge.boxv {w : World} {T : TypeId} {lo g : Nat} {vs : List Value} (h : Ge lo w (bxv T g vs)) (i : Nat) (v : Value) (hi : vs[i]? = some v) : w.cell? ⟨g, i, none⟩ = some v := by
  have h1 : w.heap[g]? = some (.cells vs.toArray T (0, 0)) := h.1
  simp only [World.cell?, h1]
  simpa using hi
theorem Fl.Ge.box {w : World} {T : TypeId} {lo g : Nat} {xs : List Nat} (h : Ge lo w (bxf T g xs)) (i : Nat) (hi : i < xs.length) : w.cell? ⟨g, i, none⟩ = some (.float .f32 (wd xs i)) :=
  Ge.boxv h i _ (by rw [List.getElem?_map, List.getElem?_eq_getElem hi]; simp [wd, List.getD_eq_getElem?_getD, List.getElem?_eq_getElem hi])
theorem boxv_ge (v : World) (T : TypeId) (vs : List Value) : Ge v.heap.size (v.alloc (.cells vs.toArray T)) (bxv T v.heap.size vs) :=
  ⟨Go.Deep.blk_alloc_new _ _, fun w w' h hp => (h _ rfl).trans hp, fun g hg => by
    have hg' : g = v.heap.size := hg
    subst hg'
    exact ⟨Nat.le_refl _, by simp⟩⟩
theorem boxw (v : World) (T : TypeId) (vs : List Value) : ∃ V, V = v.alloc (.cells vs.toArray T) ∧ v.Since v.heap.size V ∧ Ge v.heap.size V (bxv T v.heap.size vs) :=
  ⟨_, rfl, (World.Since.refl _ _).alloc (Nat.le_refl _) _, boxv_ge v T vs⟩
theorem boxe (v : World) (T : TypeId) (xs : List Nat) : ∃ V, V = v.alloc (.cells (xs.map fun x => Value.float .f32 x).toArray T) ∧ v.Since v.heap.size V ∧ Ge v.heap.size V (bxf T v.heap.size xs) :=
  boxw v T _
def PEB (n0 : Nat) (f0 : Nat → O) (b : Bool) (w : World) (e : Ending) (w' : World) : Prop :=
  ∃ (p : Ls) (c : Nat), e = .returned (.tuple #[.slice p.A p.n c, .bool b]) ∧ p.n = n0 ∧ Ge w.heap.size w' (fe p.A p.n p.xs) ∧ Are p f0 ∧ w.Since w.heap.size w'
theorem PEB.none_ {w w' : World} (s : w.Since w.heap.size w') (f0 : Nat → O) : PEB 0 f0 false w (.returned (.tuple #[.slice none 0 0, .bool false])) w' :=
  ⟨⟨none, 0, []⟩, 0, rfl, rfl, Gs.nil_.toE, (fun k hk => by simp at hk), s⟩
theorem PLB.toE {n0 : Nat} {f0 : Nat → O} {b : Bool} {w w' : World} {e : Ending} (h : PLB n0 f0 b w e w') : PEB n0 f0 b w e w' := by
  obtain ⟨p, c, h1, h2, h3, h4, h5⟩ := h
  exact ⟨p, c, h1, h2, h3.toE, h4, h5⟩
/-- two lists and a yes or no -/
def PEEB (n0 : Nat) (f0 : Nat → O) (n1 : Nat) (f1 : Nat → O) (b : Bool) (w : World) (e : Ending) (w' : World) : Prop :=
  ∃ (p q : Ls) (c d : Nat), e = .returned (.tuple #[.slice p.A p.n c, .slice q.A q.n d, .bool b]) ∧ p.n = n0 ∧ q.n = n1 ∧ Ge w.heap.size w' (fe p.A p.n p.xs) ∧ Ge w.heap.size w' (fe q.A q.n q.xs) ∧ Are p f0 ∧ Are q f1 ∧ De (fe p.A p.n p.xs) (fe q.A q.n q.xs) ∧ w.Since w.heap.size w'
theorem PEEB.none_ {w w' : World} (s : w.Since w.heap.size w') (f0 f1 : Nat → O) : PEEB 0 f0 0 f1 false w (.returned (.tuple #[.slice none 0 0, .slice none 0 0, .bool false])) w' :=
  ⟨⟨none, 0, []⟩, ⟨none, 0, []⟩, 0, 0, rfl, rfl, rfl, Gs.nil_.toE, Gs.nil_.toE, (fun k hk => by simp at hk), (fun k hk => by simp at hk), (fun g h _ => by simp [fe, ce] at h), s⟩
end Go.Proofs.Ytbhigpfpnbdilaa

/- Folds: rows of floats that whole lists are appended to; the model's fold. -/
set_option linter.unusedVariables false
set_option linter.unusedSimpArgs false
namespace Go.Proofs.Ytbhigpfpnbdilaa
open Fl Go.RowKit
theorem fvl_app (xs ys : List Nat) : fvl xs ++ fvl ys = fvl (xs ++ ys) := by unfold fvl; simp
theorem wd_app (xs ys : List Nat) (j : Nat) : wd (xs ++ ys) j = if j < xs.length then wd xs j else wd ys (j - xs.length) := by
  unfold wd
  split
  · next h => simp [List.getD_eq_getElem?_getD, List.getElem?_append_left h]
  · next h => simp [List.getD_eq_getElem?_getD, List.getElem?_append_right (Nat.le_of_not_lt h)]
set_option maxRecDepth 100000 in
theorem wpList_appN {ops : Array Oper} {rest : List Oper} {o : Oper} {a : Act} {Q : Exit → Act → World → Prop} {w : World} (hgd : o.guard = none) (s x : Operand)
    (ho : o.op = .call { callee := .builtin .append, args := #[s, x], argTypes := #[28, 28] }) (lo : Nat) (v : Value) (k : Nat) (F : Nat → O) (hs : a.eval s = v) (A : Option Addr) (m c : Nat) (xs : List Nat) (B : Nat)
    (hx : a.eval x = .slice A m c) (hnone : A = none → m = 0 ∧ c = 0) (hA : Hid (Fs w B A m xs)) (hF : ∀ j, j < m → F (k + j) = ab .f32 (wd xs j)) (hk : k + m ≤ 1048576) (hlo : lo ≤ w.heap.size) (hR : Rw lo w v k F)
    (h : ∀ v' w', Hid (Rw lo w' v' (k + m) F) → Hid (w.Since lo w') → wpList Try.prog ops Q rest (a.put o.dst v') w') : wpList Try.prog ops Q (o :: rest) a w := by
  obtain ⟨os, h1, h2, h3⟩ := hR
  obtain ⟨i0, hi, hz0, hz1, hz2⟩ := info_parts Try.infoF
  have HA := hA.out
  cases A with
  | none =>
    obtain ⟨rfl, rfl⟩ := hnone rfl
    exact wpList_append_own_none (P := Try.prog) hgd s x 28 ho lo 24 i0 1 Try.underlying28 hi v k (fvl os) (by rw [hs]) h1 hx (h v w (Lib.hid ⟨os, h1, h2, h3⟩) (Lib.hid (World.Since.refl _ _)))
  | some ad =>
  refine wpList_append_own (P := Try.prog) w hgd s x 28 ho lo 24 i0 (.float .f32 0) 1 4 Try.underlying28 hi hz0 hz1 hz2 rfl (by omega) v k (fvl os) hs h1 ad m c (fvl xs) hx ?_ ?_ ?_ ?_ ?_ hlo ?_
  · rw [fvl, List.length_map, HA.1, Nat.mul_one]
  · intro j u hj
    have hlt : j < m := by
      have := (List.getElem?_eq_some_iff.1 hj).1
      rw [fvl, List.length_map, HA.1] at this; exact this
    obtain ⟨g, off, e, _, hc⟩ := HA.2.2 (by omega)
    injection e with e
    subst e
    have := hc j hlt
    rw [show (Addr.mk g off none).add j = ⟨g, off + j, none⟩ by simp [Addr.add], this]
    rw [← hj]
    unfold fvl fv wd
    simp [List.getD_eq_getElem?_getD, List.getElem?_eq_getElem (show j < xs.length by rw [HA.1]; exact hlt)]
  · intro u hu
    obtain ⟨x, _, rfl⟩ := List.mem_map.1 hu
    rfl
  · unfold maxLen; omega
  · omega
  · intro v' w' hown hg _
    have hyl : os.length = k := by simpa [fvl] using h1.1
    refine h v' w' (Lib.hid ⟨os ++ xs, ?_, fun x hx => ?_, fun j hj => ?_⟩) (Lib.hid ⟨hg.os, hg.tape, hg.output, hg.size, fun i hi => ?_⟩)
    · rw [← fvl_app]; exact hown
    · rcases List.mem_append.1 hx with h4 | h4
      · exact h2 x h4
      · exact HA.2.1 x h4
    · rw [wd_app, hyl]
      by_cases e : j < k
      · rw [if_pos e]; exact h3 j e
      · rw [if_neg e, ← hF (j - k) (by omega)]; congr 1; omega
    · refine hg.block i (by omega) fun e => ?_
      have := own_lo h1 i e.symm
      omega
theorem Rw.end_ {lo : Nat} {w : World} {v : Value} {k : Nat} {F : Nat → O} (h : Rw lo w v k F) : ∃ (A : Option Addr) (c : Nat) (xs : List Nat), v = .slice A k c ∧ k ≤ c ∧ (A = none → k = 0 ∧ c = 0) ∧ (∀ a, A = some a → ∃ g, a = ⟨g, 0, none⟩ ∧ lo ≤ g) ∧ Gs 24 w lo A k xs ∧ Are ⟨A, k, xs⟩ F := by
  obtain ⟨os, h1, hs, hf⟩ := h
  rcases h1.2 with ⟨rfl, rfl⟩ | ⟨g, cap, cur, rfl, hg, _, hk, _⟩
  · exact ⟨none, 0, os, rfl, Nat.le_refl _, fun _ => ⟨rfl, rfl⟩, (fun a h => by cases h), Gs.of_own h1 hs, hf⟩
  · exact ⟨some ⟨g, 0, none⟩, cap, os, rfl, hk, (fun h => by cases h), fun a h => by cases h; exact ⟨g, rfl, hg⟩, Gs.of_own h1 hs, hf⟩
theorem Fs.nil_ {w : World} {A : Option Addr} : Fs w 0 A 0 [] := ⟨rfl, (fun x hx => by cases hx), (fun h => by omega)⟩
/-- the last ones of a list -/
theorem Fs.tail {w : World} {B n m : Nat} {g off : Nat} {xs : List Nat} (h : Fs w B (some ⟨g, off, none⟩) (n + m) xs) : Fs w B (some ⟨g, off + n, none⟩) m (xs.drop n) :=
  ⟨by rw [List.length_drop, h.1]; omega, fun x hx => h.2.1 x (List.mem_of_mem_drop hx), fun hm => by
    obtain ⟨g', off', e, hg, hc⟩ := h.2.2 (by omega)
    injection e with e
    injection e with e1 e2 _
    subst e1; subst e2
    refine ⟨g, off + n, rfl, hg, fun k hk => ?_⟩
    have := hc (n + k) (by omega)
    rw [← Nat.add_assoc] at this
    rw [this]
    unfold fv wd
    simp [List.getD_eq_getElem?_getD]⟩
theorem wd_drop (xs : List Nat) (n k : Nat) : wd (xs.drop n) k = wd xs (n + k) := by unfold wd; simp [List.getD_eq_getElem?_getD]
def apO (xs ys : List Nat) (n j : Nat) : O := if j < n then ab .f32 (wd xs j) else ab .f32 (wd ys (j - n))
def fsum (T Z : Nat → O) (p : Nat) : Nat → O
  | 0 => some 0
  | k + 1 => opO .add .f32 (fsum T Z p k) (opO .mul .f32 (T k) (Z (p - k)))
def foldF (T Z : Nat → O) (l t i : Nat) : O := fsum T Z (l + i) t
def offO (Z : Nat → O) (n j : Nat) : O := Z (n + j)
def PEE (n0 : Nat) (f0 : Nat → O) (n1 : Nat) (f1 : Nat → O) (w : World) (e : Ending) (w' : World) : Prop :=
  ∃ (p q : Ls) (c d : Nat), e = .returned (.tuple #[.slice p.A p.n c, .slice q.A q.n d]) ∧ Hid (p.n = n0) ∧ Hid (q.n = n1) ∧ Hid (Ge w.heap.size w' (fe p.A p.n p.xs)) ∧ Hid (Ge w.heap.size w' (fe q.A q.n q.xs)) ∧ Hid (Are p f0) ∧ Hid (Are q f1) ∧ Hid (De (fe p.A p.n p.xs) (fe q.A q.n q.xs)) ∧ Hid (w.Since w.heap.size w')
end Go.Proofs.Ytbhigpfpnbdilaa

/- Filters: copies of samples; one filter over samples, the program's. -/
set_option linter.unusedVariables false
set_option linter.unusedSimpArgs false
namespace Go.Proofs.Ytbhigpfpnbdilaa
open Fl Go.RowKit
set_option maxHeartbeats 4000000 in
set_option maxRecDepth 100000 in
theorem clone_any (A : Option Addr) (n c : Nat) (xs : List Nat) (w : World) (hA : Fs w w.heap.size A n xs) (hn : n ≤ 256) :
    Calls Try.prog 15 #[.slice A n c] w fun e w' => ∃ (A' : Option Addr) (c' : Nat) (ys : List Nat), e = .returned (.slice A' n c') ∧ ((A' = none → n = 0 ∧ c' = 0) ∧ ∀ a, A' = some a → ∃ g, a = ⟨g, 0, none⟩) ∧ Gs 24 w' w.heap.size A' n ys ∧ (∀ j, j < n → ab .f32 (wd ys j) = ab .f32 (wd xs j)) ∧ w.Since w.heap.size w' := by
  have hq := fun W => Lib.run_eql_slice_nil W 28 24 A n c 0 0 Try.underlying28
  have HA := Lib.hid hA; clear hA
  cases A with
  | none =>
    obtain rfl : n = 0 := by
      rcases Nat.eq_zero_or_pos n with h | h
      · exact h
      · obtain ⟨g, off, e, _⟩ := HA.out.2.2 h; cases e
    go_enter Try.func15, Try.ntmps15
    go_wp2
    go_ret
    exact ⟨none, 0, [], rfl, ⟨fun _ => by simp, fun a h => by cases h⟩, Gs.nil_, fun j hj => by omega, World.Since.refl _ _⟩
  | some ad =>
    go_enter Try.func15, Try.ntmps15
    go_wp2_with (at_builtin; refine wpList_appN rfl (.tmp 5) (.tmp 6) rfl w.heap.size _ 0 (fun j => ab .f32 (wd xs j)) rfl _ _ _ xs _ rfl (by simp) (Lib.hid (HA.out.since ((World.Since.refl _ _).alloc (Nat.le_refl _) _))) (fun j hj => by rw [Nat.zero_add]) (by omega) (by simp) (Rw.start w _ (Nat.le_refl _) _) ?_; intro v1 wa hRa hSa; have Ha := Lib.hid (((World.Since.refl w.heap.size w).alloc (Nat.le_refl _) _).trans hSa.out); clear hSa; obtain ⟨pA, cq, px, rfl, hcq, hno, hso, hgp, hap⟩ := hRa.out.end_; have HNS := Lib.hid hso; have HNO := Lib.hid hno; have GP := Lib.hid hgp; have AP := Lib.hid hap; clear hgp hap hRa hno hso)
    go_ret
    exact ⟨pA, cq, px, rfl, ⟨fun h => by have := HNO.out h; omega, fun a h => by obtain ⟨g, e, _⟩ := HNS.out a h; exact ⟨g, e⟩⟩, by first | exact GP.out | (have := GP.out; rwa [Nat.zero_add] at this), fun j hj => AP.out j (by first | exact hj | (show j < 0 + n; omega)), Ha.out⟩
theorem Try.infoMem : (Try.prog.info? 31).map (fun i => (i.zero, i.size, i.bytes)) = some (some (.agg #[.float .f32 0, .float .f32 0, .float .f32 0, .float .f32 0]), 4, 16) := by kernel_rfl
theorem make_mem (W : World) : (Instr.makeSlice 39 (.int .i64 1) (.int .i64 1)).run Try.prog W = .ok (.slice (some ⟨W.heap.size, 0, none⟩) 1 1) (W.alloc (.cells #[.float .f32 0, .float .f32 0, .float .f32 0, .float .f32 0] 31)) := by
  obtain ⟨i0, hi, hz0, hz1, hz2⟩ := info_parts Try.infoMem
  have h := run_make (P := Try.prog) W 39 31 i0 _ Try.underlying39 hi hz0 .i64 .i64 1 1 (by omega) (by omega) (by rw [hz2]; decide) (by omega)
  rw [hz1] at h
  have e : madeCells (Value.agg #[.float .f32 0, .float .f32 0, .float .f32 0, .float .f32 0]).cells (Int.toNat 1 * 4) = #[.float .f32 0, .float .f32 0, .float .f32 0, .float .f32 0] := by kernel_rfl
  rw [e] at h
  exact h
set_option maxHeartbeats 8000000 in
set_option maxRecDepth 100000 in
theorem implRFs_one (form : Nat) (hform : form ≤ 2) (fu : Bool) (f : FilN) (m : MemN) (F : Fil) (M : Mem) (A : Option Addr) (n c b1 b2 : Nat) (xs : List Nat) (w : World) (hF : FvF f F) (hM : FvM m M) (hA : Fs w w.heap.size A n xs) (hn : n ≤ 256) (hb1 : FilAt w b1 f) (hb2 : MemB 31 w b2 m) :
    Calls Try.prog 11 #[.slice (some ⟨b1, 0, none⟩) 1 1, .int .i64 (form : Int), .bool fu, .slice (some ⟨b2, 0, none⟩) 1 1, .slice A n c] w fun e w' => ∃ (p : Ls) (c' mg : Nat) (m' : MemN), e = .returned (.tuple #[.slice p.A p.n c', .slice (some ⟨mg, 0, none⟩) 1 1, .bool true]) ∧ p.n = n ∧ Gs 24 w' w.heap.size p.A p.n p.xs ∧ Are p (filY form fu F M (fun k => ab .f32 (wd xs k))) ∧ MemB 31 w' mg m' ∧ FvM m' (filM form fu F M (fun k => ab .f32 (wd xs k)) n) ∧ w.Since w.heap.size w' ∧ (p.A = none → n = 0 ∧ c' = 0) ∧ (∀ a, p.A = some a → ∃ g, a = ⟨g, 0, none⟩) := by
  obtain ⟨kk, hkk, hso⟩ := stepOf_any form hform
  have HSO := Lib.hid hso; clear hso
  have hfew : decide ((n : Int) ≤ 256) = true := decide_eq_true (by omega)
  have HSM : Hid (∀ v, Calls Try.prog 14 #[.slice A n c] v fun e w' => e = .returned (.bool true) ∧ v = w') := Lib.hid fun v => implSamples_b A n c true v hfew
  have HA := Lib.hid hA
  have HB1 := Lib.hid hb1; have HB2 := Lib.hid hb2
  clear hA hb1 hb2 hfew
  go_enter Try.func11, Try.ntmps11
  go_wp2_with (first | (go_at_call 13; refine (HSO.out _).mono ?_; rintro e w' ⟨rfl, rfl⟩) | (go_at_call 14; refine (HSM.out _).mono ?_; rintro e w' ⟨rfl, rfl⟩))
  go_at_call 15
  refine (clone_any A n c xs w HA.out hn).mono ?_
  rintro e w1 ⟨A', c', ys, rfl, hsome, hg, hy, hs⟩
  have G1 := Lib.hid hg; have Y1 := Lib.hid hy; have S1 := Lib.hid hs; have NS := Lib.hid hsome
  clear hg hy hs hsome
  have hmk := make_mem w1
  have z1 := S1.out.size
  go_wp2_with fail
  generalize hW2 : World.alloc w1 _ = w2
  have z2 : w2.heap.size = w1.heap.size + 1 := by rw [← hW2]; simp
  have hs2 : w1.Since w1.heap.size w2 := by rw [← hW2]; exact (World.Since.refl _ _).alloc (Nat.le_refl _) _
  have S2 := Lib.hid (since_step S1.out hs2)
  have N2 : Hid (MemB 31 w2 w1.heap.size ⟨0, 0, 0, 0⟩) := Lib.hid (by rw [← hW2]; exact MemB.new _ _ _ _ _ _)
  have G2 := Lib.hid (G1.out.since hs2)
  have F2 := Lib.hid (HB1.out.since (since_mono S2.out (show b1 + 1 ≤ w.heap.size by have := HB1.out.lt; omega)))
  have M2 := Lib.hid (HB2.out.since S2.out HB2.out.lt)
  clear hW2 hs2 hmk
  have k0 := F2.out.b0; have k1 := F2.out.b1; have k2 := F2.out.b2; have k3 := F2.out.a1; have k4 := F2.out.a2
  refine wp_loop_rounds 2 ?_
  rw [rounds_succ]
  go_wp2_with fail
  generalize hW3 : World.alloc w2 _ = w3
  have z3 : w3.heap.size = w2.heap.size + 1 := by rw [← hW3]; simp
  have hs3 : w2.Since w2.heap.size w3 := by rw [← hW3]; exact (World.Since.refl _ _).alloc (Nat.le_refl _) _
  have FF : Hid (FilAt w3 w2.heap.size f) := Lib.hid (by rw [← hW3]; exact ⟨by simp, by simp [go_sem], by simp [go_sem], by simp [go_sem], by simp [go_sem], by simp [go_sem]⟩)
  have N3 := Lib.hid (N2.out.since hs3 N2.out.lt)
  have M3 := Lib.hid (M2.out.since hs3 M2.out.lt)
  have G3 := Lib.hid (G2.out.since hs3)
  have S3 := Lib.hid (since_step S2.out hs3)
  clear hW3 hs3 k0 k1 k2 k3 k4
  have FF' := FF.out
  rw [z2] at FF'
  have k0 := FF'.b0; have k1 := FF'.b1; have k2 := FF'.b2; have k3 := FF'.a1; have k4 := FF'.a2
  have m0 := M3.out.c0; have m1 := M3.out.c1; have m2 := M3.out.c2; have m3 := M3.out.c3
  have h18 : w1.heap.size + 1 < w3.heap.size := by omega
  have hmg : w1.heap.size < w3.heap.size := by omega
  have hb2 : b2 < w3.heap.size := M3.out.lt
  have hzw : w.heap.size ≤ w3.heap.size := S3.out.size
  -- the run in place
  have run : ∀ V : World, w3.Since w3.heap.size V → Calls Try.prog 16 #[.agg #[.float .f32 f.b0, .float .f32 f.b1, .float .f32 f.b2, .float .f32 f.a1, .float .f32 f.a2, .bool fu], .func (.func kk) #[] #[], .agg #[.float .f32 m.a, .float .f32 m.b, .float .f32 m.c, .float .f32 m.d], .slice A' n c'] V fun e w' => ∃ (ma mb mc md : Nat) (zs : List Nat), e = .returned (.agg #[.float .f32 ma, .float .f32 mb, .float .f32 mc, .float .f32 md]) ∧ FvM ⟨ma, mb, mc, md⟩ (filM form fu F M (fun k => ab .f32 (wd xs k)) n) ∧ Gs 24 w' w.heap.size A' n zs ∧ Are ⟨A', n, zs⟩ (filY form fu F M (fun k => ab .f32 (wd xs k))) ∧ w.Since w.heap.size w' ∧ MemB 31 w' w1.heap.size ⟨0, 0, 0, 0⟩ := fun V hs => by
    have hV := since_step S3.out hs
    have hgV := G3.out.since hs
    by_cases h0 : 0 < n
    · obtain ⟨g, cs, e9, hlg, hbg, _⟩ := G1.out.2.2 h0
      have hg1 : g < w1.heap.size := (Array.getElem?_eq_some_iff.1 hbg).1
      subst e9
      have h9 := implRun_any form kk hkk fu f m F M (some ⟨g, 0, none⟩) n c' g w.heap.size (fun k => ab .f32 (wd xs k)) V hF hM (fun h0 => ⟨rfl, Pr.of hgV h0 fun j hj => Y1.out j hj⟩) hn hV.size
      simp only [MemN.val, setV] at h9
      refine h9.mono fun e w' => ?_
      rintro ⟨⟨ma, mb, mc, md⟩, he, hm, hp, hs2, hfr⟩
      obtain ⟨zs, h1, h2⟩ := (hp h0).done hlg
      exact ⟨ma, mb, mc, md, zs, he, hm, h1, h2, hV.trans hs2, (N3.out.since hs N3.out.lt).of (hfr _ (by have := hs.size; omega) (by omega))⟩
    · have h9 := implRun_any form kk hkk fu f m F M A' n c' (w1.heap.size + 1) w.heap.size (fun k => ab .f32 (wd xs k)) V hF hM (fun h => absurd h h0) hn hV.size
      simp only [MemN.val, setV] at h9
      refine h9.mono fun e w' => ?_
      rintro ⟨⟨ma, mb, mc, md⟩, he, hm, hp, hs2, hfr⟩
      exact ⟨ma, mb, mc, md, [], he, hm, ⟨by simp; omega, (fun x hx => by cases hx), fun h => absurd h h0⟩, (fun j hj => absurd (Nat.lt_of_le_of_lt (Nat.zero_le _) hj) h0), hV.trans hs2, (N3.out.since hs N3.out.lt).of (hfr _ (by have := hs.size; omega) (by omega))⟩
  have RUN := Lib.hid run; clear run FF'
  have HCO := Lib.hid (cellsOf_any m)
  have MEMO := Lib.hid memory_any
  unfold MemN.val at HCO MEMO
  go_region_with (first
    | (go_at_call 17; refine (HCO.out _).mono ?_; rintro e w4 ⟨rfl, hs⟩; (try replace hs := sinUD hs); obtain ⟨hc4, hf4⟩ := Fl.sinCell hs; have T4 := Lib.hid hs; clear hs)
    | (go_at_call 16; refine (RUN.out _ T4.out).mono ?_; rintro e w5 ⟨ma, mb, mc, md, zs, rfl, hm, hg, ha, hs, hmb⟩; have M5 := Lib.hid hm; have G5 := Lib.hid hg; have A5 := Lib.hid ha; have T5 := Lib.hid hs; have N5 := Lib.hid hmb; clear hm hg ha hs hmb)
    | (go_at_call 18; refine (MEMO.out ⟨ma, mb, mc, md⟩ _).mono ?_; rintro e w6 ⟨rfl, hs⟩; (try replace hs := sinUD hs); have N6 := Lib.hid (N5.out.since hs N5.out.lt); have G6 := Lib.hid (G5.out.since hs); have T6 := Lib.hid (since_step T5.out hs); clear hs; have e0 := N6.out.c0; have e1 := N6.out.c1; have e2 := N6.out.c2; have e3 := N6.out.c3; have l0 := N6.out.free 0; have l1 := N6.out.free 1; have l2 := N6.out.free 2; have l3 := N6.out.free 3))
  all_goals
    have OO : Hid (On w1.heap.size w6 (((((w6.setCell ⟨w1.heap.size, 0, none⟩ (.float .f32 ma)).setCell ⟨w1.heap.size, 1, none⟩ (.float .f32 mb)).setCell ⟨w1.heap.size, 2, none⟩ (.float .f32 mc)).setCell ⟨w1.heap.size, 3, none⟩ (.float .f32 md)))) := Lib.hid (((((On.refl _ _).set _ _).set _ _).set _ _).set _ _)
    have NB := Lib.hid (N6.out.set ma mb mc md)
    have GV : Hid (Gs 24 (((((w6.setCell ⟨w1.heap.size, 0, none⟩ (.float .f32 ma)).setCell ⟨w1.heap.size, 1, none⟩ (.float .f32 mb)).setCell ⟨w1.heap.size, 2, none⟩ (.float .f32 mc)).setCell ⟨w1.heap.size, 3, none⟩ (.float .f32 md))) w.heap.size A' n zs) := Lib.hid (by
      by_cases h0 : 0 < n
      · obtain ⟨g, cs, e9, hlg, hbg, _⟩ := G1.out.2.2 h0
        have hg1 : g < w1.heap.size := (Array.getElem?_eq_some_iff.1 hbg).1
        exact Gs.on G6.out OO.out (fun s t h => by rw [e9] at h; injection h with h; injection h with h _ _; omega)
      · exact ⟨G6.out.1, G6.out.2.1, fun h => absurd h h0⟩)
    have SV := Lib.hid (T6.out.trans (since_mono OO.out.1 z1))
    generalize hV : World.setCell _ _ _ = V at *
    clear hV k0 k1 k2 k3 k4 m0 m1 m2 m3 e0 e1 e2 e3 l0 l1 l2 l3
    go_wp2_with fail
    rw [rounds_succ]
    go_wp2_with fail
    go_ret3
    exact ⟨⟨A', n, zs⟩, c', w1.heap.size, ⟨ma, mb, mc, md⟩, rfl, rfl, GV.out, A5.out, NB.out, M5.out, SV.out, NS.out.1, NS.out.2⟩
end Go.Proofs.Ytbhigpfpnbdilaa

/- Filters: RunFilter, the program's; what fails. -/
set_option linter.unusedVariables false
set_option linter.unusedSimpArgs false
namespace Go.Proofs.Ytbhigpfpnbdilaa
open Fl Go.RowKit
theorem implRFs_no (form : Int) (fu : Bool) (A : Option Addr) (n c b1 b2 : Nat) (w : World) (h : ¬ (inB form 0 2 = true ∧ n ≤ 256)) :
    Calls Try.prog 11 #[.slice (some ⟨b1, 0, none⟩) 1 1, .int .i64 form, .bool fu, .slice (some ⟨b2, 0, none⟩) 1 1, .slice A n c] w fun e w' => e = .returned (.tuple #[.slice none 0 0, .slice none 0 0, .bool false]) ∧ w.Since w.heap.size w' := by
  cases h1 : inB form 0 2
  · go_enter Try.func11, Try.ntmps11
    go_wp2_with (go_at_call 13; refine (stepOf_out _ _ h1).mono ?_; rintro e w' ⟨rfl, rfl⟩)
    go_ret3
    exact ⟨rfl, by (repeat (first | (with_reducible refine Fl.sinDrew ?_) | (with_reducible refine World.Since.drew ?_) | (with_reducible refine Fl.sinSet ?_ ?_; rotate_left) | (with_reducible refine Fl.sinAlloc ?_ ?_; rotate_left) | with_reducible exact World.Since.refl _ _ | with_reducible assumption | (with_reducible refine Fl.sinStep (by with_reducible assumption) ?_))); all_goals (first | omega | (simp; done) | (simp; omega) | (simp [go_sem]; done) | (simp [go_sem]; omega))⟩
  · have h2 : decide ((n : Int) ≤ 256) = false := decide_eq_false fun h3 => h ⟨h1, by omega⟩
    have HSM : Hid (∀ v, Calls Try.prog 14 #[.slice A n c] v fun e w' => e = .returned (.bool false) ∧ v = w') := Lib.hid fun v => implSamples_b A n c false v h2
    clear h h2
    simp only [inB, Bool.and_eq_true, decide_eq_true_eq] at h1
    obtain ⟨form, rfl⟩ := Int.eq_ofNat_of_zero_le h1.1
    obtain ⟨kk, _, hso⟩ := stepOf_any form (by omega)
    have HSO := Lib.hid hso; clear hso
    go_enter Try.func11, Try.ntmps11
    go_wp2_with (first | (go_at_call 13; refine (HSO.out _).mono ?_; rintro e w' ⟨rfl, rfl⟩) | (go_at_call 14; refine (HSM.out _).mono ?_; rintro e w' ⟨rfl, rfl⟩))
    go_ret3
    exact ⟨rfl, by (repeat (first | (with_reducible refine Fl.sinDrew ?_) | (with_reducible refine World.Since.drew ?_) | (with_reducible refine Fl.sinSet ?_ ?_; rotate_left) | (with_reducible refine Fl.sinAlloc ?_ ?_; rotate_left) | with_reducible exact World.Since.refl _ _ | with_reducible assumption | (with_reducible refine Fl.sinStep (by with_reducible assumption) ?_))); all_goals (first | omega | (simp; done) | (simp; omega) | (simp [go_sem]; done) | (simp [go_sem]; omega))⟩
/-- a list in a block of its own, or none, and a memory -/
def PLMBo (n0 : Nat) (f0 : Nat → O) (M : Mem) (b : Bool) (w : World) (e : Ending) (w' : World) : Prop :=
  ∃ (p : Ls) (c : Nat) (m : MemN), e = .returned (.tuple #[.slice p.A p.n c, m.val, .bool b]) ∧ p.n = n0 ∧ Gs 24 w' w.heap.size p.A p.n p.xs ∧ Are p f0 ∧ FvM m M ∧ w.Since w.heap.size w' ∧ (p.A = none → n0 = 0 ∧ c = 0) ∧ (∀ a, p.A = some a → ∃ g, a = ⟨g, 0, none⟩)
set_option maxHeartbeats 8000000 in
set_option maxRecDepth 100000 in
theorem implRF_own (form : Nat) (hform : form ≤ 2) (fu : Bool) (f : FilN) (m : MemN) (F : Fil) (M : Mem) (A : Option Addr) (n c : Nat) (xs : List Nat) (w : World) (hF : FvF f F) (hM : FvM m M) (hA : Fs w w.heap.size A n xs) (hn : n ≤ 256) :
    Calls Try.prog 7 #[f.val, .int .i64 (form : Int), .bool fu, m.val, .slice A n c] w (PLMBo n (filY form fu F M (fun k => ab .f32 (wd xs k))) (filM form fu F M (fun k => ab .f32 (wd xs k)) n) true w) := by
  have HR := Lib.hid fun (V : World) (b1 b2 : Nat) (hs : w.Since w.heap.size V) (hg : FilAt V b1 f) (hm : MemB 31 V b2 m) => implRFs_one form hform fu f m F M A n c b1 b2 xs V hF hM ((hA.since hs).more hs.size) hn hg hm
  obtain ⟨b0, b1, b2, a1, a2⟩ := f
  obtain ⟨ma, mb, mc, md⟩ := m
  unfold MemN.val at *
  unfold FilN.val
  clear hA
  go_enter Try.func7, Try.ntmps7
  go_wp2_with fail
  generalize hW1 : World.alloc w _ = W1
  generalize hW2 : World.alloc W1 _ = W2
  generalize hW3 : World.alloc W2 _ = W3
  generalize hW4 : World.alloc W3 _ = W4
  generalize hW5 : World.alloc W4 _ = W5
  have z1 : W1.heap.size = w.heap.size + 1 := by rw [← hW1]; simp
  have z2 : W2.heap.size = w.heap.size + 1 + 1 := by rw [← hW2]; simp [z1]
  have z3 : W3.heap.size = w.heap.size + 1 + 1 + 1 := by rw [← hW3]; simp [z2]
  have z4 : W4.heap.size = w.heap.size + 1 + 1 + 1 + 1 := by rw [← hW4]; simp [z3]
  have s1 : w.Since w.heap.size W1 := by rw [← hW1]; exact (World.Since.refl _ _).alloc (Nat.le_refl _) _
  have s2 : W1.Since W1.heap.size W2 := by rw [← hW2]; exact (World.Since.refl _ _).alloc (Nat.le_refl _) _
  have s3 : W2.Since W2.heap.size W3 := by rw [← hW3]; exact (World.Since.refl _ _).alloc (Nat.le_refl _) _
  have s4 : W3.Since W3.heap.size W4 := by rw [← hW4]; exact (World.Since.refl _ _).alloc (Nat.le_refl _) _
  have s5 : W4.Since W4.heap.size W5 := by rw [← hW5]; exact (World.Since.refl _ _).alloc (Nat.le_refl _) _
  have z5 : W5.heap.size = w.heap.size + 1 + 1 + 1 + 1 + 1 := by rw [← hW5]; simp [z4]
  have S5 : Hid (w.Since w.heap.size W5) := Lib.hid (((((s1.trans (since_mono s2 (by omega))).trans (since_mono s3 (by omega))).trans (since_mono s4 (by omega))).trans (since_mono s5 (by omega))))
  have FA : FilAt W4 (w.heap.size + 1 + 1 + 1) ⟨b0, b1, b2, a1, a2⟩ := by rw [← hW4, ← z3]; exact ⟨by simp, by simp [go_sem], by simp [go_sem], by simp [go_sem], by simp [go_sem], by simp [go_sem]⟩
  have F5 := Lib.hid (FA.since (since_mono s5 (by omega)))
  have M5 : Hid (MemB 31 W5 (w.heap.size + 1 + 1 + 1 + 1) ⟨ma, mb, mc, md⟩) := Lib.hid (by rw [← hW5, ← z4]; exact MemB.new _ _ _ _ _ _)
  have B3 : MemB 31 W3 (w.heap.size + 1 + 1) ⟨0, 0, 0, 0⟩ := by rw [← hW3, ← z2]; exact MemB.new _ _ _ _ _ _
  have B5 := Lib.hid ((B3.since s4 (by omega)).since s5 (by omega))
  clear hW1 hW2 hW3 hW4 hW5 s1 s2 s3 s4 s5 FA B3 z1 z2 z3 z4
  refine (HR.out W5 _ _ S5.out F5.out M5.out).mono ?_
  rintro e w6 ⟨p, c', mg, ⟨qa, qb, qc, qd⟩, rfl, rfl, hg, ha, hn6, hm, hs, hno, hso⟩
  have hg9 := hg; rw [z5] at hg9
  have G6 := Lib.hid hg9; have A6 := Lib.hid ha; have N6 := Lib.hid hn6; have M6 := Lib.hid hm; have S6 := Lib.hid (since_step S5.out hs)
  have E6 := Lib.hid (B5.out.since hs (by omega))
  have NO := Lib.hid hno; have NS := Lib.hid hso
  clear hg hg9 ha hn6 hm hs hno hso
  go_wp2_with fail
  have e0 := E6.out.c0; have e1 := E6.out.c1; have e2 := E6.out.c2; have e3 := E6.out.c3
  have l0 := E6.out.free 0; have l1 := E6.out.free 1; have l2 := E6.out.free 2; have l3 := E6.out.free 3
  have p0 := N6.out.c0; have p1 := N6.out.c1; have p2 := N6.out.c2; have p3 := N6.out.c3
  have OO : Hid (On (w.heap.size + 1 + 1) w6 (((((w6.setCell ⟨w.heap.size + 1 + 1, 0, none⟩ (.float .f32 qa)).setCell ⟨w.heap.size + 1 + 1, 1, none⟩ (.float .f32 qb)).setCell ⟨w.heap.size + 1 + 1, 2, none⟩ (.float .f32 qc)).setCell ⟨w.heap.size + 1 + 1, 3, none⟩ (.float .f32 qd)))) := Lib.hid (((((On.refl _ _).set _ _).set _ _).set _ _).set _ _)
  have NB := Lib.hid (E6.out.set qa qb qc qd)
  go_region
  all_goals
    generalize hV2 : World.setCell _ _ _ = V2 at *
    have g0 := NB.out.c0; have g1 := NB.out.c1; have g2 := NB.out.c2; have g3 := NB.out.c3
    go_wp2
    exact bodyPost_ret (v := .tuple #[.slice p.A p.n c', .agg #[.float .f32 qa, .float .f32 qb, .float .f32 qc, .float .f32 qd], .bool true]) (by simp [results, Try.results7, go_sem, g0, g1, g2, g3]) rfl
      ⟨p, c', ⟨qa, qb, qc, qd⟩, rfl, rfl, (gs_low G6.out OO.out (by omega)).less (by omega), A6.out, M6.out, by first | exact S6.out.trans (since_mono OO.out.1 (by omega)) | exact since_drewN (S6.out.trans (since_mono OO.out.1 (by omega))) _, NO.out, NS.out⟩
theorem implRF_ok (form : Nat) (hform : form ≤ 2) (fu : Bool) (f : FilN) (m : MemN) (F : Fil) (M : Mem) (A : Option Addr) (n c : Nat) (xs : List Nat) (w : World) (hF : FvF f F) (hM : FvM m M) (hA : Fs w w.heap.size A n xs) (hn : n ≤ 256) :
    Calls Try.prog 7 #[f.val, .int .i64 (form : Int), .bool fu, m.val, .slice A n c] w (PLMB n (filY form fu F M (fun k => ab .f32 (wd xs k))) (filM form fu F M (fun k => ab .f32 (wd xs k)) n) true w) :=
  (implRF_own form hform fu f m F M A n c xs w hF hM hA hn).mono fun e w' ⟨p, c, m, h1, h2, h3, h4, h5, h6, _⟩ => ⟨p, c, m, h1, h2, h3, h4, h5, h6⟩
set_option maxHeartbeats 8000000 in
set_option maxRecDepth 100000 in
theorem implRF_no (form : Int) (fu : Bool) (f : FilN) (m : MemN) (A : Option Addr) (n c : Nat) (w : World) (h : ¬ (inB form 0 2 = true ∧ n ≤ 256)) (G : Nat → O) :
    Calls Try.prog 7 #[f.val, .int .i64 form, .bool fu, m.val, .slice A n c] w (PLMB 0 G noM false w) := by
  have HR := Lib.hid fun (V : World) (b1 b2 : Nat) => implRFs_no form fu A n c b1 b2 V h
  clear h
  obtain ⟨b0, b1, b2, a1, a2⟩ := f
  obtain ⟨ma, mb, mc, md⟩ := m
  unfold FilN.val MemN.val
  go_enter Try.func7, Try.ntmps7
  go_wp2_with fail
  generalize hW1 : World.alloc w _ = W1
  generalize hW2 : World.alloc W1 _ = W2
  generalize hW3 : World.alloc W2 _ = W3
  generalize hW4 : World.alloc W3 _ = W4
  generalize hW5 : World.alloc W4 _ = W5
  have z1 : W1.heap.size = w.heap.size + 1 := by rw [← hW1]; simp
  have z2 : W2.heap.size = w.heap.size + 1 + 1 := by rw [← hW2]; simp [z1]
  have z3 : W3.heap.size = w.heap.size + 1 + 1 + 1 := by rw [← hW3]; simp [z2]
  have z4 : W4.heap.size = w.heap.size + 1 + 1 + 1 + 1 := by rw [← hW4]; simp [z3]
  have s1 : w.Since w.heap.size W1 := by rw [← hW1]; exact (World.Since.refl _ _).alloc (Nat.le_refl _) _
  have s2 : W1.Since W1.heap.size W2 := by rw [← hW2]; exact (World.Since.refl _ _).alloc (Nat.le_refl _) _
  have s3 : W2.Since W2.heap.size W3 := by rw [← hW3]; exact (World.Since.refl _ _).alloc (Nat.le_refl _) _
  have s4 : W3.Since W3.heap.size W4 := by rw [← hW4]; exact (World.Since.refl _ _).alloc (Nat.le_refl _) _
  have s5 : W4.Since W4.heap.size W5 := by rw [← hW5]; exact (World.Since.refl _ _).alloc (Nat.le_refl _) _
  have z5 : W5.heap.size = w.heap.size + 1 + 1 + 1 + 1 + 1 := by rw [← hW5]; simp [z4]
  have S5 : Hid (w.Since w.heap.size W5) := Lib.hid (((((s1.trans (since_mono s2 (by omega))).trans (since_mono s3 (by omega))).trans (since_mono s4 (by omega))).trans (since_mono s5 (by omega))))
  have B3 : MemB 31 W3 (w.heap.size + 1 + 1) ⟨0, 0, 0, 0⟩ := by rw [← hW3, ← z2]; exact MemB.new _ _ _ _ _ _
  have B5 := Lib.hid ((B3.since s4 (by omega)).since s5 (by omega))
  clear hW1 hW2 hW3 hW4 hW5 s1 s2 s3 s4 s5 B3 z1 z2 z3 z4
  refine (HR.out W5 _ _).mono ?_
  rintro e w6 ⟨rfl, hs⟩
  have S6 := Lib.hid (since_step S5.out hs)
  have E6 := Lib.hid (B5.out.since hs (by omega))
  clear hs
  have e0 := E6.out.c0; have e1 := E6.out.c1; have e2 := E6.out.c2; have e3 := E6.out.c3
  have l0 := E6.out.free 0; have l1 := E6.out.free 1; have l2 := E6.out.free 2; have l3 := E6.out.free 3
  have OO : Hid (On (w.heap.size + 1 + 1) w6 (((((w6.setCell ⟨w.heap.size + 1 + 1, 0, none⟩ (.float .f32 0)).setCell ⟨w.heap.size + 1 + 1, 1, none⟩ (.float .f32 0)).setCell ⟨w.heap.size + 1 + 1, 2, none⟩ (.float .f32 0)).setCell ⟨w.heap.size + 1 + 1, 3, none⟩ (.float .f32 0)))) := Lib.hid (((((On.refl _ _).set _ _).set _ _).set _ _).set _ _)
  have NB := Lib.hid (E6.out.set 0 0 0 0)
  go_wp2_with fail
  generalize hV2 : World.setCell _ _ _ = V2 at *
  have g0 := NB.out.c0; have g1 := NB.out.c1; have g2 := NB.out.c2; have g3 := NB.out.c3
  exact bodyPost_ret (v := .tuple #[.slice none 0 0, .agg #[.float .f32 0, .float .f32 0, .float .f32 0, .float .f32 0], .bool false]) (by simp [results, Try.results7, go_sem, g0, g1, g2, g3]) rfl (PLMB.none_ (S6.out.trans (since_mono OO.out.1 (by omega))) _)
end Go.Proofs.Ytbhigpfpnbdilaa

/- Small laws on filters, walked. -/
set_option linter.unusedVariables false
set_option linter.unusedSimpArgs false
namespace Go.Proofs.Ytbhigpfpnbdilaa
open Fl Go.RowKit
theorem fvOne : Hid (Fv .f32 1065353216 (some 1065353216)) := Lib.hid ⟨by decide, by rw [ab32]; rfl⟩
def FilPost (w : World) (F : Fil) (e : Ending) (w' : World) : Prop := ∃ b0 b1 b2 a1 a2 : Nat, e = .returned (.agg #[.float .f32 b0, .float .f32 b1, .float .f32 b2, .float .f32 a1, .float .f32 a2]) ∧ FvF ⟨b0, b1, b2, a1, a2⟩ F ∧ w.Since w.heap.size w'
def FloPost (w : World) (F : O) (e : Ending) (w' : World) : Prop := ∃ r : Nat, e = .returned (.float .f32 r) ∧ Hid (Fv .f32 r F) ∧ w.Since w.heap.size w'

set_option maxRecDepth 100000 in
theorem implScale_any (f : FilN) (F : Fil) (x : Nat) (X : O) (w : World) (hF : FvF f F) (hx : Hid (Fv .f32 x X)) :
    Calls Try.prog 8 #[f.val, .float .f32 x] w (FilPost w ⟨mu F.b0 X, mu F.b1 X, mu F.b2 X, F.a1, F.a2⟩) := by
  obtain ⟨b0, b1, b2, a1, a2⟩ := f
  obtain ⟨f0, f1, f2, f3, f4⟩ := hF
  simp only at f0 f1 f2 f3 f4
  unfold FilN.val
  go_enter Try.func8, Try.ntmps8
  go_wp2_with (with_reducible_and_instances refine Lo.wpList_fo _ rfl _ _ _ _ _ rfl _ _ _ _ _ rfl rfl rfl (by assumption) (by assumption) ?_; intro rr nn hrr)
  rename_i r0 _ h0 r1 _ h1
  exact bodyPost_ret (v := .agg #[.float .f32 r0, .float .f32 r1, .float .f32 rr, .float .f32 a1, .float .f32 a2]) (by simp [results, Try.results8, go_sem]) rfl ⟨r0, r1, rr, a1, a2, rfl, ⟨h0, h1, hrr, f3, f4⟩, by (repeat (first | (with_reducible refine Fl.sinDrew ?_) | (with_reducible refine World.Since.drew ?_) | (with_reducible refine Fl.sinSet ?_ ?_; rotate_left) | (with_reducible refine Fl.sinAlloc ?_ ?_; rotate_left) | with_reducible exact World.Since.refl _ _ | with_reducible assumption | (with_reducible refine Fl.sinStep (by with_reducible assumption) ?_))); all_goals (first | omega | (simp; done) | (simp; omega) | (simp [go_sem]; done) | (simp [go_sem]; omega))⟩


def ofF (f : FilN) : Fil := ⟨ab .f32 f.b0, ab .f32 f.b1, ab .f32 f.b2, ab .f32 f.a1, ab .f32 f.a2⟩
def ofM (m : MemN) : Mem := ⟨ab .f32 m.a, ab .f32 m.b, ab .f32 m.c, ab .f32 m.d⟩
end Go.Proofs.Ytbhigpfpnbdilaa

/- The law of the three forms. -/
set_option linter.unusedVariables false
set_option linter.unusedSimpArgs false
namespace Go.Proofs.Ytbhigpfpnbdilaa
open Fl Go.RowKit Ieee
theorem HZ.more {h : HZ} (hh : h.le 2) : h.le 4 := by obtain ⟨a, b, c, d, e⟩ := hh; exact ⟨by omega, by omega, by omega, d, e⟩
theorem HZ.more2 {h : HZ} (hh : h.le 2) : h.twice.le 4 := by
  obtain ⟨a, b, c, d, e⟩ := hh
  refine ⟨?_, ?_, ?_, d, e⟩ <;> (simp only [HZ.twice]; omega)
theorem two_EO : EO .f32 0 2 (some 1073741824) := exB_EO (by decide +kernel)
theorem HZ.of2 {h : HZ} {F : Fil} (hh : h.le 2) (hf : h.of F) : h.twice.of ⟨mu F.b0 (some 1073741824), mu F.b1 (some 1073741824), mu F.b2 (some 1073741824), F.a1, F.a2⟩ := by
  obtain ⟨a, b, c, d, e⟩ := hh
  obtain ⟨f0, f1, f2, f3, f4⟩ := hf
  have t : ∀ (u : Int) (U : O), u.natAbs ≤ 2 → EO .f32 1 u U → EO .f32 1 (2 * u) (mu U (some 1073741824)) := by
    intro u U hu hU
    exact (EO.mul hU two_EO (by rw [bd32]; omega) (by decide)).cast (Int.mul_comm _ _)
  exact ⟨t _ _ a f0, t _ _ b f1, t _ _ c f2, f3, f4⟩
theorem wh8_pick {xs : List Nat} {n : Nat} (h : ∀ j, j < n → Wh 8 (ab .f32 (wd xs j))) : ∃ z : Nat → Int, ∀ j, j < n → ab .f32 (wd xs j) = some (fI (z j)) ∧ (z j).natAbs ≤ 8 :=
  ⟨fun j => if hj : j < n then Classical.choose (h j hj) else 0, fun j hj => by
    have := Classical.choose_spec (h j hj)
    simp only [dif_pos hj]
    exact ⟨this.2, this.1⟩⟩
theorem pw_le {u : Int} {J : Nat} (hu : u.natAbs ≤ 16) (hJ : J ≤ 5) : (2 ^ J * u).natAbs ≤ 512 := by
  rw [pow_abs]
  exact Nat.le_trans (Nat.mul_le_mul (Nat.pow_le_pow_right (by decide) hJ) hu) (by decide)
theorem ad_le {u v : Int} {m n : Nat} (hu : u.natAbs ≤ m) (hv : v.natAbs ≤ n) : (u + v).natAbs ≤ m + n := by omega
theorem sb_le {u v : Int} {m n : Nat} (hu : u.natAbs ≤ m) (hv : v.natAbs ≤ n) : (u - v).natAbs ≤ m + n := by omega
theorem tw_le {u : Int} {m : Nat} (hu : u.natAbs ≤ m) : (2 * u).natAbs ≤ 2 * m := by omega
theorem dz1 (h : HZ) (X : Nat → Int) : dz h X 1 = 2 ^ 1 * (h.b0 * X 1) + (2 ^ 1 * (h.b1 * X 0) - h.a1 * dz h X 0) := by
  show dNew h 1 ⟨dz h X 0, 0, X 0, 0⟩ (X 1) = _
  unfold dNew
  simp only [Int.mul_add, Int.mul_zero, Int.sub_zero, Int.add_zero]
  generalize (2 : Int) ^ 1 * (h.b0 * X 1) = a
  generalize (2 : Int) ^ 1 * (h.b1 * X 0) = b
  generalize h.a1 * dz h X 0 = c
  omega
theorem dz2 (h : HZ) (X : Nat → Int) (k : Nat) : dz h X (k + 2) = 2 ^ (k + 2) * (h.b0 * X (k + 2)) + (2 ^ (k + 2) * (h.b1 * X (k + 1)) - h.a1 * dz h X (k + 1)) + (2 ^ (k + 2) * (h.b2 * X k) - 2 * (h.a2 * dz h X k)) := by
  show dNew h (k + 2) ⟨dz h X (k + 1), dz h X k, X (k + 1), X k⟩ (X (k + 2)) = _
  unfold dNew
  simp only [Int.mul_add]
  have e : h.a2 * (2 * dz h X k) = 2 * (h.a2 * dz h X k) := by ac_rfl
  rw [e]
  generalize (2 : Int) ^ (k + 2) * (h.b0 * X (k + 2)) = a
  generalize (2 : Int) ^ (k + 2) * (h.b1 * X (k + 1)) = b
  generalize (2 : Int) ^ (k + 2) * (h.b2 * X k) = d
  generalize h.a1 * dz h X (k + 1) = c
  generalize h.a2 * dz h X k = f
  omega
theorem up1_64 {q : Nat} {a : Int} {x : Nat} (h : EO .f64 q a (some x)) (hq : q ≤ 100) : EO .f64 (q + 1) (2 * a) (some x) := by
  have := h.up 1 (by show q + 1 ≤ 1074; omega)
  exact this.cast (by rw [Int.mul_comm]; rfl)
theorem conv_w (b : Nat) (hab : ab .f32 b = some b) (W : World) : (convert 24 35 (.float .f32 b)).run Try.prog W = .ok (.float .f64 (FloatKind.f64.encode (FloatKind.f32.decode b))) W := by
  have h := run_wide (P := Try.prog) 24 35 b (by kernel_rfl) (by kernel_rfl) W
  unfold wv wn at h
  rw [hab] at h
  exact h
theorem fop_w {op : BinOp} {k : FloatKind} {x y r : Nat} (t : TypeId) (h : floatBits op k x y = some r) (W : World) : (binOp op t (.float k x) (.float k y)).run Try.prog W = .ok (.float k r) W := run_float_arith W op t k x y r h
theorem eo_word {k : FloatKind} {q : Nat} {z : Int} {x : Nat} (h : EO k q z (ab k x)) : ab k x = some x ∧ EO k q z (some x) := by
  obtain ⟨b, hb, f, v⟩ := h
  obtain rfl := ab_some hb
  exact ⟨hb, b, rfl, f, v⟩
theorem eo_w64 {q : Nat} {z : Int} {x : Nat} (h : EO .f32 q z (some x)) (hq : q ≤ 100) : EO .f64 q z (some (FloatKind.f64.encode (FloatKind.f32.decode x))) := EO.wide h (by omega)
theorem eo_eq {k : FloatKind} {q : Nat} {z : Int} {x y : Nat} (hx : EO k q z (some x)) (hy : EO k q z (some y)) : k.format.order x y = some .eq := by
  have := EO.ord hx hy
  rw [cmp_def, if_neg (by omega), if_pos rfl] at this
  exact this
theorem eo_mul64 {q p : Nat} {a b : Int} {x y : Nat} (hx : EO .f64 q a (some x)) (hy : EO .f64 p b (some y)) (hb : (a * b).natAbs < 9007199254740992) (hq : q + p ≤ 200) : ∃ r, floatBits .mul .f64 x y = some r ∧ EO .f64 (q + p) (a * b) (some r) := by
  have h := EO.mul hx hy (by rw [bd64]; exact hb) (by show q + p ≤ 1074; omega)
  obtain ⟨r, hr, f, v⟩ := h
  exact ⟨r, hr, r, rfl, f, v⟩
theorem eo_add64 {q : Nat} {a b : Int} {x y : Nat} (hx : EO .f64 q a (some x)) (hy : EO .f64 q b (some y)) (hb : (a + b).natAbs < 9007199254740992) : ∃ r, floatBits .add .f64 x y = some r ∧ EO .f64 q (a + b) (some r) := by
  have h := EO.add hx hy (by rw [bd64]; exact hb)
  obtain ⟨r, hr, f, v⟩ := h
  exact ⟨r, hr, r, rfl, f, v⟩
theorem eo_sub64 {q : Nat} {a b : Int} {x y : Nat} (hx : EO .f64 q a (some x)) (hy : EO .f64 q b (some y)) (hb : (a - b).natAbs < 9007199254740992) : ∃ r, floatBits .sub .f64 x y = some r ∧ EO .f64 q (a - b) (some r) := by
  have h := EO.sub hx hy (by rw [bd64]; exact hb)
  obtain ⟨r, hr, f, v⟩ := h
  exact ⟨r, hr, r, rfl, f, v⟩
theorem fs_cell_at {w : World} {B n g off k : Nat} {xs : List Nat} (h : Fs w B (some ⟨g, off, none⟩) n xs) (hk : k < n) : w.cell? ⟨g, off + k, none⟩ = some (.float .f32 (wd xs k)) ∧ g < B := by
  obtain ⟨g', off', e, hg, hc⟩ := h.2.2 (by omega)
  injection e with e
  injection e with e1 e2 _
  subst e1; subst e2
  exact ⟨hc k hk, hg⟩
theorem dz_lim {h : HZ} {X : Nat → Int} {j : Nat} (hh : h.le 4) (hX : ∀ j, j < 6 → (X j).natAbs ≤ 8) (hj : j < 6) : (dz h X j).natAbs ≤ 393216 := Nat.le_trans (dz_le hh hX hj) (Nat.mul_le_mul_left 96 (four_le (by omega)))
theorem conv_o {b q : Nat} {z : Int} (h : EO .f32 q z (ab .f32 b)) (hq : q ≤ 100) : ∃ y, (∀ W, (convert 24 35 (.float .f32 b)).run Try.prog W = .ok (.float .f64 y) W) ∧ Hid (EO .f64 q z (some y)) := by
  obtain ⟨h1, h2⟩ := eo_word h
  exact ⟨_, conv_w b h1, Lib.hid (eo_w64 h2 hq)⟩
theorem dz0 (h : HZ) (X : Nat → Int) : dz h X 0 = h.b0 * X 0 := by
  show dNew h 0 ⟨0, 0, 0, 0⟩ (X 0) = _
  unfold dNew
  simp
theorem up64 {a : Int} {x : Nat} (h : EO .f64 1 a (some x)) (j : Nat) (hj : j ≤ 40) : EO .f64 (j + 1) (2 ^ j * a) (some x) := by
  have := h.up j (by show 1 + j ≤ 1074; omega)
  rw [Nat.add_comm] at this
  exact this.cast (by rw [Int.mul_comm]; rfl)
set_option maxHeartbeats 32000000 in
set_option maxRecDepth 100000 in
theorem lawForms_any (A : Option Addr) (n c : Nat) (xs : List Int) (B : Option Addr) (m d : Nat) (ys : List Int) (w : World) (hA : Bs w w.heap.size A n xs) (hB : Bs w w.heap.size B m ys) :
    Calls Try.prog 3 #[.slice A n c, .slice B m d] w fun e w' => e = .returned (.bool true) ∧ w.Since w.heap.size w' := by
  have HA := Lib.hid hA; have HB := Lib.hid hB; clear hA hB
  cases hl : (decide ((48 : Int) < n) || decide ((48 : Int) < m))
  case true =>
    go_enter Try.func3, Try.ntmps3
    go_wp2_with fail
    refine (r8Long_any A B n c m d true w hl).mono ?_
    rintro e w1 ⟨rfl, hs⟩
    have S1 := Lib.hid hs; clear hs
    go_wp2
    go_ret
    exact ⟨rfl, S1.out⟩
  case false =>
    have hnm : n ≤ 48 ∧ m ≤ 48 := by simp only [Bool.or_eq_false_iff, decide_eq_false_iff_not] at hl; omega
    go_enter Try.func3, Try.ntmps3
    go_wp2_with fail
    refine (r8Long_any A B n c m d false w hl).mono ?_
    rintro e w1 ⟨rfl, hs⟩
    have S1 := Lib.hid hs; clear hs hl
    go_wp2_with fail
    refine (halves_any A n c xs w1 ((HA.out.since S1.out (Nat.le_refl _)).more S1.out.size) (by omega)).mono ?_
    rintro e w2 ⟨⟨b0, b1, b2, a1, a2⟩, F, h, rfl, hF, hle, hof, hs⟩
    have HF := Lib.hid hF; have HL := Lib.hid hle; have HO := Lib.hid hof; have S2 := Lib.hid (since_step S1.out hs); clear hF hle hof hs S1
    simp only [FilN.val]
    go_wp2_with fail
    generalize hW : World.alloc w2 _ = W2
    obtain ⟨bf, hbf⟩ : ∃ q, Hid (q = w2.heap.size) := ⟨_, Lib.hid rfl⟩
    have FB : Hid (FilB 26 W2 bf ⟨b0, b1, b2, a1, a2⟩) := Lib.hid (by rw [← hW, hbf.out]; exact FilB.new _ _ _ _ _ _ _)
    have S2' : Hid (w.Since w.heap.size W2) := Lib.hid (by rw [← hW]; exact S2.out.alloc S2.out.size _)
    clear hW S2; have S2 := S2'; clear S2'
    rw [← hbf.out]; clear hbf
    refine (R8Whole_any B m d ys 6 W2 ((HB.out.since S2.out (Nat.le_refl _)).more S2.out.size) (by omega) (by omega)).mono ?_
    rintro e w3 ⟨g, cp, zs, rfl, hcp, hg, hpw, hs⟩
    have G3 : Hid (Fs w3 w3.heap.size (some ⟨g, 0, none⟩) 6 zs) := Lib.hid hg.read
    have S3 := Lib.hid (since_step S2.out hs); have FB' := Lib.hid (FB.out.since hs FB.out.lt); clear FB; have FB := FB'; clear FB'
    clear hg hs S2
    obtain ⟨X, hX⟩ := wh8_pick hpw.out
    have HX := Lib.hid hX; clear hX hpw
    have XL : Hid (∀ j, j < 6 → (X j).natAbs ≤ 8) := Lib.hid fun j hj => (HX.out j hj).2
    obtain ⟨Z, hZ⟩ : ∃ Z : Nat → O, Hid (Z = fun j => ab .f32 (wd zs j)) := ⟨_, Lib.hid rfl⟩
    have XE : Hid (∀ j, j < 6 → EO .f32 0 (X j) (Z j)) := Lib.hid fun j hj => by
      rw [hZ.out]
      show EO .f32 0 (X j) (ab .f32 (wd zs j))
      rw [(HX.out j hj).1]
      exact EO.int _ (by rw [bd32]; have := (HX.out j hj).2; omega)
    have f0 := FB.out.c0; have f1 := FB.out.c1; have f2 := FB.out.c2; have f3 := FB.out.c3; have f4 := FB.out.c4
    have K1 := Lib.hid (show Calls Try.prog 7 #[.agg #[.float .f32 b0, .float .f32 b1, .float .f32 b2, .float .f32 a1, .float .f32 a2], .int .i64 0, .bool false, .agg #[.float .f32 0, .float .f32 0, .float .f32 0, .float .f32 0], .slice (some ⟨g, 0, none⟩) 6 cp] w3 (PLMBo 6 (filY 0 false F noM Z) (filM 0 false F noM Z 6) true w3) from by
      rw [hZ.out]; exact implRF_own 0 (by decide) false ⟨b0, b1, b2, a1, a2⟩ ⟨0, 0, 0, 0⟩ F noM (some ⟨g, 0, none⟩) 6 cp zs w3 HF.out fvNo G3.out (by omega))
    go_wp2_with fail
    refine K1.out.mono ?_
    rintro e w4 ⟨⟨A1, n1, o1⟩, c1, ⟨la, lb, lc, ld⟩, rfl, hn1, hg1, hf1, hl1, hs, hno1, hso1⟩
    change n1 = 6 at hn1
    subst hn1
    have S4 := Lib.hid (since_step S3.out hs); have G3a := Lib.hid ((G3.out.since hs).more hs.size); have FB' := Lib.hid (FB.out.since hs FB.out.lt)
    have P1 : Hid (Fs w4 w4.heap.size A1 6 o1) := Lib.hid hg1.read; have R1 : Hid (∀ j, j < 6 → ab .f32 (wd o1 j) = filY 0 false F noM Z j) := Lib.hid hf1
    clear hs K1 FB f0 f1 f2 f3 f4 S3 G3 hg1 hf1 hl1 hno1 hso1; have FB := FB'; clear FB'
    have f0 := FB.out.c0; have f1 := FB.out.c1; have f2 := FB.out.c2; have f3 := FB.out.c3; have f4 := FB.out.c4; have fl := FB.out.lt
    simp only [MemN.val]
    go_wp2_with fail
    generalize hW : World.alloc w4 _ = W4
    have hs : w4.Since w4.heap.size W4 := by rw [← hW]; exact (World.Since.refl _ _).alloc (Nat.le_refl _) _
    have S4' := Lib.hid (since_step S4.out hs); have G4 := Lib.hid ((G3a.out.since hs).more hs.size); have FB' := Lib.hid (FB.out.since hs FB.out.lt)
    have P1' := Lib.hid ((P1.out.since hs).more hs.size); clear P1; have P1 := P1'; clear P1'
    clear hW hs S4 G3a FB f0 f1 f2 f3 f4 fl; have S4 := S4'; have FB := FB'; clear S4' FB'
    have f0 := FB.out.c0; have f1 := FB.out.c1; have f2 := FB.out.c2; have f3 := FB.out.c3; have f4 := FB.out.c4
    have K2 := Lib.hid (show Calls Try.prog 7 #[.agg #[.float .f32 b0, .float .f32 b1, .float .f32 b2, .float .f32 a1, .float .f32 a2], .int .i64 1, .bool false, .agg #[.float .f32 0, .float .f32 0, .float .f32 0, .float .f32 0], .slice (some ⟨g, 0, none⟩) 6 cp] W4 (PLMBo 6 (filY 1 false F noM Z) (filM 1 false F noM Z 6) true W4) from by
      rw [hZ.out]; exact implRF_own 1 (by decide) false ⟨b0, b1, b2, a1, a2⟩ ⟨0, 0, 0, 0⟩ F noM (some ⟨g, 0, none⟩) 6 cp zs W4 HF.out fvNo G4.out (by omega))
    refine K2.out.mono ?_
    rintro e w5 ⟨⟨A2, n2, o2⟩, c2, ⟨la, lb, lc, ld⟩, rfl, hn1, hg1, hf1, hl1, hs, hno1, hso1⟩
    change n2 = 6 at hn1
    subst hn1
    have S5 := Lib.hid (since_step S4.out hs); have G4a := Lib.hid ((G4.out.since hs).more hs.size); have FB' := Lib.hid (FB.out.since hs FB.out.lt)
    have P2 : Hid (Fs w5 w5.heap.size A2 6 o2) := Lib.hid hg1.read; have R2 : Hid (∀ j, j < 6 → ab .f32 (wd o2 j) = filY 1 false F noM Z j) := Lib.hid hf1
    have P1' := Lib.hid ((P1.out.since hs).more hs.size); clear P1; have P1 := P1'; clear P1'
    clear hs K2 FB f0 f1 f2 f3 f4 S4 G4 hg1 hf1 hl1 hno1 hso1; have FB := FB'; clear FB'
    have f0 := FB.out.c0; have f1 := FB.out.c1; have f2 := FB.out.c2; have f3 := FB.out.c3; have f4 := FB.out.c4; have fl := FB.out.lt
    simp only [MemN.val]
    go_wp2_with fail
    generalize hW : World.alloc w5 _ = W5
    have hs : w5.Since w5.heap.size W5 := by rw [← hW]; exact (World.Since.refl _ _).alloc (Nat.le_refl _) _
    have S5' := Lib.hid (since_step S5.out hs); have G5 := Lib.hid ((G4a.out.since hs).more hs.size); have FB' := Lib.hid (FB.out.since hs FB.out.lt)
    have P1' := Lib.hid ((P1.out.since hs).more hs.size); clear P1; have P1 := P1'; clear P1'
    have P2' := Lib.hid ((P2.out.since hs).more hs.size); clear P2; have P2 := P2'; clear P2'
    clear hW hs S5 G4a FB f0 f1 f2 f3 f4 fl; have S5 := S5'; have FB := FB'; clear S5' FB'
    have f0 := FB.out.c0; have f1 := FB.out.c1; have f2 := FB.out.c2; have f3 := FB.out.c3; have f4 := FB.out.c4
    have K3 := Lib.hid (show Calls Try.prog 7 #[.agg #[.float .f32 b0, .float .f32 b1, .float .f32 b2, .float .f32 a1, .float .f32 a2], .int .i64 2, .bool true, .agg #[.float .f32 0, .float .f32 0, .float .f32 0, .float .f32 0], .slice (some ⟨g, 0, none⟩) 6 cp] W5 (PLMBo 6 (filY 2 true F noM Z) (filM 2 true F noM Z 6) true W5) from by
      rw [hZ.out]; exact implRF_own 2 (by decide) true ⟨b0, b1, b2, a1, a2⟩ ⟨0, 0, 0, 0⟩ F noM (some ⟨g, 0, none⟩) 6 cp zs W5 HF.out fvNo G5.out (by omega))
    refine K3.out.mono ?_
    rintro e w6 ⟨⟨A3, n3, o3⟩, c3, ⟨la, lb, lc, ld⟩, rfl, hn1, hg1, hf1, hl1, hs, hno1, hso1⟩
    change n3 = 6 at hn1
    subst hn1
    have S6 := Lib.hid (since_step S5.out hs); have G5a := Lib.hid ((G5.out.since hs).more hs.size); have FB' := Lib.hid (FB.out.since hs FB.out.lt)
    have P3 : Hid (Fs w6 w6.heap.size A3 6 o3) := Lib.hid hg1.read; have R3 : Hid (∀ j, j < 6 → ab .f32 (wd o3 j) = filY 2 true F noM Z j) := Lib.hid hf1
    have P1' := Lib.hid ((P1.out.since hs).more hs.size); clear P1; have P1 := P1'; clear P1'
    have P2' := Lib.hid ((P2.out.since hs).more hs.size); clear P2; have P2 := P2'; clear P2'
    clear hs K3 FB f0 f1 f2 f3 f4 S5 G5 hg1 hf1 hl1 hno1 hso1; have FB := FB'; clear FB'
    have f0 := FB.out.c0; have f1 := FB.out.c1; have f2 := FB.out.c2; have f3 := FB.out.c3; have f4 := FB.out.c4; have fl := FB.out.lt
    simp only [MemN.val]
    go_wp2_with fail
    generalize hW : World.alloc w6 _ = W6
    have hs : w6.Since w6.heap.size W6 := by rw [← hW]; exact (World.Since.refl _ _).alloc (Nat.le_refl _) _
    have S6' := Lib.hid (since_step S6.out hs); have G6 := Lib.hid ((G5a.out.since hs).more hs.size); have FB' := Lib.hid (FB.out.since hs FB.out.lt)
    have P1' := Lib.hid ((P1.out.since hs).more hs.size); clear P1; have P1 := P1'; clear P1'
    have P2' := Lib.hid ((P2.out.since hs).more hs.size); clear P2; have P2 := P2'; clear P2'
    have P3' := Lib.hid ((P3.out.since hs).more hs.size); clear P3; have P3 := P3'; clear P3'
    clear hW hs S6 G5a FB f0 f1 f2 f3 f4 fl; have S6 := S6'; have FB := FB'; clear S6' FB'
    have f0 := FB.out.c0; have f1 := FB.out.c1; have f2 := FB.out.c2; have f3 := FB.out.c3; have f4 := FB.out.c4
    refine (implScale_any ⟨b0, b1, b2, a1, a2⟩ F 1073741824 (some 1073741824) W6 HF.out (fvc (by decide) (by decide))).mono ?_
    rintro e w7 ⟨t0, t1, t2, t3, t4, rfl, hT, hs⟩
    have HT := Lib.hid hT
    have S7 := Lib.hid (since_step S6.out hs); have G7 := Lib.hid ((G6.out.since hs).more hs.size); have FB' := Lib.hid (FB.out.since hs FB.out.lt)
    have P1' := Lib.hid ((P1.out.since hs).more hs.size); clear P1; have P1 := P1'; clear P1'
    have P2' := Lib.hid ((P2.out.since hs).more hs.size); clear P2; have P2 := P2'; clear P2'
    have P3' := Lib.hid ((P3.out.since hs).more hs.size); clear P3; have P3 := P3'; clear P3'
    clear hs hT FB f0 f1 f2 f3 f4 S6 G6; have FB := FB'; clear FB'
    have K4 := Lib.hid (show Calls Try.prog 7 #[.agg #[.float .f32 t0, .float .f32 t1, .float .f32 t2, .float .f32 t3, .float .f32 t4], .int .i64 0, .bool false, .agg #[.float .f32 0, .float .f32 0, .float .f32 0, .float .f32 0], .slice (some ⟨g, 0, none⟩) 6 cp] w7 (PLMBo 6 (filY 0 false ⟨mu F.b0 (some 1073741824), mu F.b1 (some 1073741824), mu F.b2 (some 1073741824), F.a1, F.a2⟩ noM Z) (filM 0 false ⟨mu F.b0 (some 1073741824), mu F.b1 (some 1073741824), mu F.b2 (some 1073741824), F.a1, F.a2⟩ noM Z 6) true w7) from by
      rw [hZ.out]; exact implRF_own 0 (by decide) false ⟨t0, t1, t2, t3, t4⟩ ⟨0, 0, 0, 0⟩ ⟨mu F.b0 (some 1073741824), mu F.b1 (some 1073741824), mu F.b2 (some 1073741824), F.a1, F.a2⟩ noM (some ⟨g, 0, none⟩) 6 cp zs w7 HT.out fvNo G7.out (by omega))
    go_wp2_with fail
    refine K4.out.mono ?_
    rintro e w8 ⟨⟨A4, n4, o4⟩, c4, ⟨la, lb, lc, ld⟩, rfl, hn1, hg1, hf1, hl1, hs, hno1, hso1⟩
    change n4 = 6 at hn1
    subst hn1
    have S8 := Lib.hid (since_step S7.out hs); have FB' := Lib.hid (FB.out.since hs FB.out.lt)
    have P4 : Hid (Fs w8 w8.heap.size A4 6 o4) := Lib.hid hg1.read; have R4 : Hid (∀ j, j < 6 → ab .f32 (wd o4 j) = filY 0 false ⟨mu F.b0 (some 1073741824), mu F.b1 (some 1073741824), mu F.b2 (some 1073741824), F.a1, F.a2⟩ noM Z j) := Lib.hid hf1
    have GX : Hid (Fs w8 w8.heap.size (some ⟨g, 0, none⟩) 6 zs) := Lib.hid ((G7.out.since hs).more hs.size)
    have P1' := Lib.hid ((P1.out.since hs).more hs.size); clear P1; have P1 := P1'; clear P1'
    have P2' := Lib.hid ((P2.out.since hs).more hs.size); clear P2; have P2 := P2'; clear P2'
    have P3' := Lib.hid ((P3.out.since hs).more hs.size); clear P3; have P3 := P3'; clear P3'
    clear hs K4 FB S7 G7 hg1 hf1 hl1 hno1 hso1; have FB := FB'; clear FB'
    simp only [MemN.val]
    rename (∀ (a : Act) (w : World), Code.wp Try.prog _ _ a w → _) => ak
    have AK := Lib.hid ak; clear ak
    go_wp2_with fail
    generalize hW : World.alloc w8 _ = W8
    have hs : w8.Since w8.heap.size W8 := by rw [← hW]; exact (World.Since.refl _ _).alloc (Nat.le_refl _) _
    have S8' := Lib.hid (since_step S8.out hs); have GX' := Lib.hid ((GX.out.since hs).more hs.size); have FB' := Lib.hid (FB.out.since hs FB.out.lt)
    have P1' := Lib.hid ((P1.out.since hs).more hs.size); clear P1; have P1 := P1'; clear P1'
    have P2' := Lib.hid ((P2.out.since hs).more hs.size); clear P2; have P2 := P2'; clear P2'
    have P3' := Lib.hid ((P3.out.since hs).more hs.size); clear P3; have P3 := P3'; clear P3'
    have P4' := Lib.hid ((P4.out.since hs).more hs.size); clear P4; have P4 := P4'; clear P4'
    clear hW hs S8 GX FB; have S8 := S8'; have GX := GX'; have FB := FB'; clear S8' GX' FB'
    have D1 : Hid (∀ j, j < 6 → EO .f32 (j + 1) (dz h X j) (ab .f32 (wd o1 j))) := Lib.hid fun j hj => by rw [R1.out j hj]; exact dir_out (HZ.more HL.out) HO.out XL.out XE.out hj
    have D2 : Hid (∀ j, j < 6 → EO .f32 (j + 1) (dz h X j) (ab .f32 (wd o2 j))) := Lib.hid fun j hj => by rw [R2.out j hj]; exact (tur_run (HZ.more HL.out) HO.out XL.out XE.out j (by omega)).2.2 hj
    have D3 : Hid (∀ j, j < 6 → EO .f32 (j + 1 + 1) (2 * dz h X j) (ab .f32 (wd o3 j))) := Lib.hid fun j hj => by rw [R3.out j hj]; exact can_out (HZ.more HL.out) HO.out XL.out XE.out hj
    have D4 : Hid (∀ j, j < 6 → EO .f32 (j + 1) (2 * dz h X j) (ab .f32 (wd o4 j))) := Lib.hid fun j hj => by
      rw [R4.out j hj, ← (dz_twice h X j).2.2.2.2]
      exact dir_out (HZ.more2 HL.out) (HZ.of2 HL.out HO.out) XL.out XE.out hj
    clear R1 R2 R3 R4 XE hZ HT
    refine AK.out _ _ ?_
    clear AK
    have gg1 := P1.out.2.2 (by omega); have gg2 := P2.out.2.2 (by omega); have gg3 := P3.out.2.2 (by omega); have gg4 := P4.out.2.2 (by omega)
    obtain ⟨g1, u1, e1, gb1, gc1⟩ := gg1; obtain ⟨g2, u2, e2, gb2, gc2⟩ := gg2; obtain ⟨g3, u3, e3, gb3, gc3⟩ := gg3; obtain ⟨g4, u4, e4, gb4, gc4⟩ := gg4
    subst e1; subst e2; subst e3; subst e4
    obtain ⟨hb0, hb1, hb2, ha1, ha2⟩ := HO.out
    have fb := HF.out
    obtain ⟨B0, vb0, EB0⟩ := conv_o (b := b0) (q := 1) (z := h.b0) (by rw [fb.b0.out.2]; exact hb0) (by decide)
    obtain ⟨B1, vb1, EB1⟩ := conv_o (b := b1) (q := 1) (z := h.b1) (by rw [fb.b1.out.2]; exact hb1) (by decide)
    obtain ⟨B2, vb2, EB2⟩ := conv_o (b := b2) (q := 1) (z := h.b2) (by rw [fb.b2.out.2]; exact hb2) (by decide)
    obtain ⟨C1, va1, EA1⟩ := conv_o (b := a1) (q := 1) (z := h.a1) (by rw [fb.a1.out.2]; exact ha1) (by decide)
    obtain ⟨C2, va2, EA2⟩ := conv_o (b := a2) (q := 1) (z := h.a2) (by rw [fb.a2.out.2]; exact ha2) (by decide)
    clear hb0 hb1 hb2 ha1 ha2 fb HF HO
    have f0 := FB.out.c0; have f1 := FB.out.c1; have f2 := FB.out.c2; have f3 := FB.out.c3; have f4 := FB.out.c4; have fl := FB.out.lt
    go_wp2
    go_loopw [19] (fun i wr => ∃ j mm : Nat, j ≤ 6 ∧ i = .int .i64 (j : Int) ∧ wr = W8.drewN mm) (fun i _ => 6 - (intOf i).toNat)
    case atStart => exact ⟨0, 0, Nat.zero_le _, rfl, rfl⟩
    case round =>
      obtain ⟨j, mm, hj, rfl, rfl⟩ := hrel
      by_cases hlt : j < 6
      · obtain ⟨kx, bx⟩ := fs_cell_at GX.out hlt
        rw [Nat.zero_add] at kx
        obtain ⟨k1, q1⟩ := fs_cell_at P1.out hlt
        obtain ⟨k2, q2⟩ := fs_cell_at P2.out hlt
        obtain ⟨k3, q3⟩ := fs_cell_at P3.out hlt
        obtain ⟨k4, q4⟩ := fs_cell_at P4.out hlt
        obtain ⟨hx1, hx2⟩ := HX.out j hlt
        have hxw : wd zs j = fI (X j) := (ab_some hx1).symm
        rw [hxw] at kx hx1
        obtain ⟨XW, vx, EX⟩ := conv_o (b := fI (X j)) (q := 0) (z := X j) (by rw [hx1]; exact EO.int (X j) (by rw [bd32]; omega)) (by decide)
        have z1 := eo_word (D1.out j hlt); have z2 := eo_word (D2.out j hlt); have z3 := eo_word (D3.out j hlt); have z4 := eo_word (D4.out j hlt)
        obtain ⟨YW, vy, EY⟩ := conv_o (D1.out j hlt) (by omega)
        have o2 := eo_eq z2.2 z1.2
        have o3 := eo_eq z3.2 (eo_up1 z1.2 (by omega))
        have tw := EO.mul two_EO z1.2 (by rw [bd32]; have := dz_lim (HZ.more HL.out) XL.out hlt; omega) (by show 0 + (j + 1) ≤ 149; omega)
        rw [Nat.zero_add] at tw
        obtain ⟨rt, ht, _, _⟩ := id tw
        have o4 := eo_eq z4.2 (by rw [ht] at tw; exact tw)
        have vt := fop_w (op := .mul) (k := .f32) 24 (show floatBits .mul .f32 1073741824 (wd o1 j) = some rt from ht)
        obtain ⟨p0, hp0, ep0⟩ := eo_mul64 EB0.out EX.out (by have := mul_le HL.out.1 hx2; omega) (by decide)
        have vp0 := fop_w (op := .mul) (k := .f64) 35 hp0
        by_cases h0 : j = 0
        · subst h0
          have ow : FloatKind.f64.format.order YW p0 = some .eq := eo_eq EY.out (ep0.cast (dz0 h X).symm)
          clear z1 z2 z3 z4 tw ht hp0 ep0
          rw [Nat.add_zero] at k1 k2 k3 k4
          go_wp2
          go_region
          go_wp2
          clear vb0 vb1 vb2 va1 va2 vx vp0 f0 f1 f2 f3 f4
          go_region
          go_wp2
          refine ⟨⟨1, _, by omega, rfl, rfl⟩, by simp [intOf]⟩
        · have h15 : j = 1 ∨ j = 2 ∨ j = 3 ∨ j = 4 ∨ j = 5 := by omega
          clear h0
          rcases h15 with rfl | rfl | rfl | rfl | rfl
          · as_aux_lemma =>
              obtain ⟨kxa, _⟩ := fs_cell_at GX.out (show 0 < 6 by decide)
              rw [Nat.zero_add] at kxa
              obtain ⟨k1a, _⟩ := fs_cell_at P1.out (show 0 < 6 by decide)
              obtain ⟨hxa1, hxa2⟩ := HX.out 0 (by decide)
              have hxaw : wd zs 0 = fI (X 0) := (ab_some hxa1).symm
              rw [hxaw] at kxa hxa1
              obtain ⟨XA, vxa, EXa⟩ := conv_o (b := fI (X 0)) (q := 0) (z := X 0) (by rw [hxa1]; exact EO.int (X 0) (by rw [bd32]; omega)) (by decide)
              obtain ⟨YA, vya, EYa⟩ := conv_o (D1.out 0 (by decide)) (by decide)
              have dla := dz_lim (HZ.more HL.out) XL.out (show 0 < 6 by decide)
              obtain ⟨p1, hp1, ep1⟩ := eo_mul64 EB1.out EXa.out (Nat.lt_of_le_of_lt (mul_le HL.out.2.1 hxa2) (by decide)) (by decide)
              obtain ⟨p2, hp2, ep2⟩ := eo_mul64 EA1.out EYa.out (Nat.lt_of_le_of_lt (mul_le HL.out.2.2.2.1 dla) (by decide)) (by decide)
              have b1 := pw_le (J := 1) (mul_le HL.out.2.1 hxa2) (by decide)
              have b0 := pw_le (J := 1) (mul_le HL.out.1 hx2) (by decide)
              have b3 := sb_le b1 (mul_le HL.out.2.2.2.1 dla)
              obtain ⟨p3, hp3, ep3⟩ := eo_sub64 (q := 1 + 1) (up64 ep1 1 (by decide)) ep2 (Nat.lt_of_le_of_lt b3 (by decide))
              have b4 := ad_le b0 b3
              obtain ⟨p4, hp4, ep4⟩ := eo_add64 (q := 1 + 1) (up64 ep0 1 (by decide)) ep3 (Nat.lt_of_le_of_lt b4 (by decide))
              have vp1 := fop_w (op := .mul) (k := .f64) 35 hp1
              have vp2 := fop_w (op := .mul) (k := .f64) 35 hp2
              have vp3 := fop_w (op := .sub) (k := .f64) 35 hp3
              have vp4 := fop_w (op := .add) (k := .f64) 35 hp4
              have ow : FloatKind.f64.format.order YW p4 = some .eq := eo_eq EY.out (ep4.cast (dz1 h X).symm)
              clear z1 z2 z3 z4 tw ht hp0 ep0 hp1 ep1 hp2 ep2 hp3 ep3 hp4 ep4 b0 b1 b3 b4 hx1 hx2 hxa1 hxa2 hxw hxaw dla EX EY EXa EYa
              rw [Nat.add_zero] at k1a
              go_wp2
              go_region
              go_wp2
              clear vb0 f0 vx vp0 kx gc1 gc2 gc3 gc4
              as_aux_lemma =>
                go_region
                go_wp2
                clear vb1 va1 f1 f3 vxa vya kxa k1a vp1 vp2 vp3 vp4
                as_aux_lemma =>
                  clear vb2 va2 f2 f4
                  as_aux_lemma =>
                    go_region
                    go_wp2
                    refine ⟨⟨2, _, by omega, rfl, rfl⟩, by simp [intOf]⟩
          · as_aux_lemma =>
              obtain ⟨kxa, _⟩ := fs_cell_at GX.out (show 1 < 6 by decide)
              rw [Nat.zero_add] at kxa
              obtain ⟨k1a, _⟩ := fs_cell_at P1.out (show 1 < 6 by decide)
              obtain ⟨hxa1, hxa2⟩ := HX.out 1 (by decide)
              have hxaw : wd zs 1 = fI (X 1) := (ab_some hxa1).symm
              rw [hxaw] at kxa hxa1
              obtain ⟨XA, vxa, EXa⟩ := conv_o (b := fI (X 1)) (q := 0) (z := X 1) (by rw [hxa1]; exact EO.int (X 1) (by rw [bd32]; omega)) (by decide)
              obtain ⟨YA, vya, EYa⟩ := conv_o (D1.out 1 (by decide)) (by decide)
              have dla := dz_lim (HZ.more HL.out) XL.out (show 1 < 6 by decide)
              obtain ⟨p1, hp1, ep1⟩ := eo_mul64 EB1.out EXa.out (Nat.lt_of_le_of_lt (mul_le HL.out.2.1 hxa2) (by decide)) (by decide)
              obtain ⟨p2, hp2, ep2⟩ := eo_mul64 EA1.out EYa.out (Nat.lt_of_le_of_lt (mul_le HL.out.2.2.2.1 dla) (by decide)) (by decide)
              have b1 := pw_le (J := 2) (mul_le HL.out.2.1 hxa2) (by decide)
              have b0 := pw_le (J := 2) (mul_le HL.out.1 hx2) (by decide)
              have b3 := sb_le b1 (mul_le HL.out.2.2.2.1 dla)
              obtain ⟨p3, hp3, ep3⟩ := eo_sub64 (q := 2 + 1) (up64 ep1 2 (by decide)) ep2 (Nat.lt_of_le_of_lt b3 (by decide))
              have b4 := ad_le b0 b3
              obtain ⟨p4, hp4, ep4⟩ := eo_add64 (q := 2 + 1) (up64 ep0 2 (by decide)) ep3 (Nat.lt_of_le_of_lt b4 (by decide))
              have vp1 := fop_w (op := .mul) (k := .f64) 35 hp1
              have vp2 := fop_w (op := .mul) (k := .f64) 35 hp2
              have vp3 := fop_w (op := .sub) (k := .f64) 35 hp3
              have vp4 := fop_w (op := .add) (k := .f64) 35 hp4
              obtain ⟨kxb, _⟩ := fs_cell_at GX.out (show 0 < 6 by decide)
              rw [Nat.zero_add] at kxb
              obtain ⟨k1b, _⟩ := fs_cell_at P1.out (show 0 < 6 by decide)
              obtain ⟨hxb1, hxb2⟩ := HX.out 0 (by decide)
              have hxbw : wd zs 0 = fI (X 0) := (ab_some hxb1).symm
              rw [hxbw] at kxb hxb1
              obtain ⟨XB, vxb, EXb⟩ := conv_o (b := fI (X 0)) (q := 0) (z := X 0) (by rw [hxb1]; exact EO.int (X 0) (by rw [bd32]; omega)) (by decide)
              obtain ⟨YB, vyb, EYb⟩ := conv_o (D1.out 0 (by decide)) (by decide)
              have dlb := dz_lim (HZ.more HL.out) XL.out (show 0 < 6 by decide)
              obtain ⟨p5, hp5, ep5⟩ := eo_mul64 EB2.out EXb.out (Nat.lt_of_le_of_lt (mul_le HL.out.2.2.1 hxb2) (by decide)) (by decide)
              obtain ⟨p6, hp6, ep6⟩ := eo_mul64 EA2.out EYb.out (Nat.lt_of_le_of_lt (mul_le HL.out.2.2.2.2 dlb) (by decide)) (by decide)
              have b5 := pw_le (J := 2) (mul_le HL.out.2.2.1 hxb2) (by decide)
              have b7 := sb_le b5 (tw_le (mul_le HL.out.2.2.2.2 dlb))
              obtain ⟨p7, hp7, ep7⟩ := eo_sub64 (q := 2 + 1) (up64 ep5 2 (by decide)) (up1_64 ep6 (by decide)) (Nat.lt_of_le_of_lt b7 (by decide))
              obtain ⟨p8, hp8, ep8⟩ := eo_add64 (q := 2 + 1) ep4 ep7 (Nat.lt_of_le_of_lt (ad_le b4 b7) (by decide))
              have vp5 := fop_w (op := .mul) (k := .f64) 35 hp5
              have vp6 := fop_w (op := .mul) (k := .f64) 35 hp6
              have vp7 := fop_w (op := .sub) (k := .f64) 35 hp7
              have vp8 := fop_w (op := .add) (k := .f64) 35 hp8
              have ow : FloatKind.f64.format.order YW p8 = some .eq := eo_eq EY.out (ep8.cast (dz2 h X 0).symm)
              clear z1 z2 z3 z4 tw ht hp0 ep0 hp1 ep1 hp2 ep2 hp3 ep3 hp4 ep4 b0 b1 b3 b4 hx1 hx2 hxa1 hxa2 hxw hxaw dla EX EY EXa EYa hp5 ep5 hp6 ep6 hp7 ep7 hp8 ep8 b5 b7 hxb1 hxb2 hxbw dlb EXb EYb
              rw [Nat.add_zero] at k1b
              go_wp2
              go_region
              go_wp2
              clear vb0 f0 vx vp0 kx gc1 gc2 gc3 gc4
              as_aux_lemma =>
                go_region
                go_wp2
                clear vb1 va1 f1 f3 vxa vya kxa k1a vp1 vp2 vp3 vp4
                as_aux_lemma =>
                  go_region
                  go_wp2
                  clear vxb vyb kxb k1b vp5 vp6 vp7 vp8
                  clear vb2 va2 f2 f4
                  as_aux_lemma =>
                    go_region
                    go_wp2
                    refine ⟨⟨3, _, by omega, rfl, rfl⟩, by simp [intOf]⟩
          · as_aux_lemma =>
              obtain ⟨kxa, _⟩ := fs_cell_at GX.out (show 2 < 6 by decide)
              rw [Nat.zero_add] at kxa
              obtain ⟨k1a, _⟩ := fs_cell_at P1.out (show 2 < 6 by decide)
              obtain ⟨hxa1, hxa2⟩ := HX.out 2 (by decide)
              have hxaw : wd zs 2 = fI (X 2) := (ab_some hxa1).symm
              rw [hxaw] at kxa hxa1
              obtain ⟨XA, vxa, EXa⟩ := conv_o (b := fI (X 2)) (q := 0) (z := X 2) (by rw [hxa1]; exact EO.int (X 2) (by rw [bd32]; omega)) (by decide)
              obtain ⟨YA, vya, EYa⟩ := conv_o (D1.out 2 (by decide)) (by decide)
              have dla := dz_lim (HZ.more HL.out) XL.out (show 2 < 6 by decide)
              obtain ⟨p1, hp1, ep1⟩ := eo_mul64 EB1.out EXa.out (Nat.lt_of_le_of_lt (mul_le HL.out.2.1 hxa2) (by decide)) (by decide)
              obtain ⟨p2, hp2, ep2⟩ := eo_mul64 EA1.out EYa.out (Nat.lt_of_le_of_lt (mul_le HL.out.2.2.2.1 dla) (by decide)) (by decide)
              have b1 := pw_le (J := 3) (mul_le HL.out.2.1 hxa2) (by decide)
              have b0 := pw_le (J := 3) (mul_le HL.out.1 hx2) (by decide)
              have b3 := sb_le b1 (mul_le HL.out.2.2.2.1 dla)
              obtain ⟨p3, hp3, ep3⟩ := eo_sub64 (q := 3 + 1) (up64 ep1 3 (by decide)) ep2 (Nat.lt_of_le_of_lt b3 (by decide))
              have b4 := ad_le b0 b3
              obtain ⟨p4, hp4, ep4⟩ := eo_add64 (q := 3 + 1) (up64 ep0 3 (by decide)) ep3 (Nat.lt_of_le_of_lt b4 (by decide))
              have vp1 := fop_w (op := .mul) (k := .f64) 35 hp1
              have vp2 := fop_w (op := .mul) (k := .f64) 35 hp2
              have vp3 := fop_w (op := .sub) (k := .f64) 35 hp3
              have vp4 := fop_w (op := .add) (k := .f64) 35 hp4
              obtain ⟨kxb, _⟩ := fs_cell_at GX.out (show 1 < 6 by decide)
              rw [Nat.zero_add] at kxb
              obtain ⟨k1b, _⟩ := fs_cell_at P1.out (show 1 < 6 by decide)
              obtain ⟨hxb1, hxb2⟩ := HX.out 1 (by decide)
              have hxbw : wd zs 1 = fI (X 1) := (ab_some hxb1).symm
              rw [hxbw] at kxb hxb1
              obtain ⟨XB, vxb, EXb⟩ := conv_o (b := fI (X 1)) (q := 0) (z := X 1) (by rw [hxb1]; exact EO.int (X 1) (by rw [bd32]; omega)) (by decide)
              obtain ⟨YB, vyb, EYb⟩ := conv_o (D1.out 1 (by decide)) (by decide)
              have dlb := dz_lim (HZ.more HL.out) XL.out (show 1 < 6 by decide)
              obtain ⟨p5, hp5, ep5⟩ := eo_mul64 EB2.out EXb.out (Nat.lt_of_le_of_lt (mul_le HL.out.2.2.1 hxb2) (by decide)) (by decide)
              obtain ⟨p6, hp6, ep6⟩ := eo_mul64 EA2.out EYb.out (Nat.lt_of_le_of_lt (mul_le HL.out.2.2.2.2 dlb) (by decide)) (by decide)
              have b5 := pw_le (J := 3) (mul_le HL.out.2.2.1 hxb2) (by decide)
              have b7 := sb_le b5 (tw_le (mul_le HL.out.2.2.2.2 dlb))
              obtain ⟨p7, hp7, ep7⟩ := eo_sub64 (q := 3 + 1) (up64 ep5 3 (by decide)) (up1_64 ep6 (by decide)) (Nat.lt_of_le_of_lt b7 (by decide))
              obtain ⟨p8, hp8, ep8⟩ := eo_add64 (q := 3 + 1) ep4 ep7 (Nat.lt_of_le_of_lt (ad_le b4 b7) (by decide))
              have vp5 := fop_w (op := .mul) (k := .f64) 35 hp5
              have vp6 := fop_w (op := .mul) (k := .f64) 35 hp6
              have vp7 := fop_w (op := .sub) (k := .f64) 35 hp7
              have vp8 := fop_w (op := .add) (k := .f64) 35 hp8
              have ow : FloatKind.f64.format.order YW p8 = some .eq := eo_eq EY.out (ep8.cast (dz2 h X 1).symm)
              clear z1 z2 z3 z4 tw ht hp0 ep0 hp1 ep1 hp2 ep2 hp3 ep3 hp4 ep4 b0 b1 b3 b4 hx1 hx2 hxa1 hxa2 hxw hxaw dla EX EY EXa EYa hp5 ep5 hp6 ep6 hp7 ep7 hp8 ep8 b5 b7 hxb1 hxb2 hxbw dlb EXb EYb
              go_wp2
              go_region
              go_wp2
              clear vb0 f0 vx vp0 kx gc1 gc2 gc3 gc4
              as_aux_lemma =>
                go_region
                go_wp2
                clear vb1 va1 f1 f3 vxa vya kxa k1a vp1 vp2 vp3 vp4
                as_aux_lemma =>
                  go_region
                  go_wp2
                  clear vxb vyb kxb k1b vp5 vp6 vp7 vp8
                  clear vb2 va2 f2 f4
                  as_aux_lemma =>
                    go_region
                    go_wp2
                    refine ⟨⟨4, _, by omega, rfl, rfl⟩, by simp [intOf]⟩
          · as_aux_lemma =>
              obtain ⟨kxa, _⟩ := fs_cell_at GX.out (show 3 < 6 by decide)
              rw [Nat.zero_add] at kxa
              obtain ⟨k1a, _⟩ := fs_cell_at P1.out (show 3 < 6 by decide)
              obtain ⟨hxa1, hxa2⟩ := HX.out 3 (by decide)
              have hxaw : wd zs 3 = fI (X 3) := (ab_some hxa1).symm
              rw [hxaw] at kxa hxa1
              obtain ⟨XA, vxa, EXa⟩ := conv_o (b := fI (X 3)) (q := 0) (z := X 3) (by rw [hxa1]; exact EO.int (X 3) (by rw [bd32]; omega)) (by decide)
              obtain ⟨YA, vya, EYa⟩ := conv_o (D1.out 3 (by decide)) (by decide)
              have dla := dz_lim (HZ.more HL.out) XL.out (show 3 < 6 by decide)
              obtain ⟨p1, hp1, ep1⟩ := eo_mul64 EB1.out EXa.out (Nat.lt_of_le_of_lt (mul_le HL.out.2.1 hxa2) (by decide)) (by decide)
              obtain ⟨p2, hp2, ep2⟩ := eo_mul64 EA1.out EYa.out (Nat.lt_of_le_of_lt (mul_le HL.out.2.2.2.1 dla) (by decide)) (by decide)
              have b1 := pw_le (J := 4) (mul_le HL.out.2.1 hxa2) (by decide)
              have b0 := pw_le (J := 4) (mul_le HL.out.1 hx2) (by decide)
              have b3 := sb_le b1 (mul_le HL.out.2.2.2.1 dla)
              obtain ⟨p3, hp3, ep3⟩ := eo_sub64 (q := 4 + 1) (up64 ep1 4 (by decide)) ep2 (Nat.lt_of_le_of_lt b3 (by decide))
              have b4 := ad_le b0 b3
              obtain ⟨p4, hp4, ep4⟩ := eo_add64 (q := 4 + 1) (up64 ep0 4 (by decide)) ep3 (Nat.lt_of_le_of_lt b4 (by decide))
              have vp1 := fop_w (op := .mul) (k := .f64) 35 hp1
              have vp2 := fop_w (op := .mul) (k := .f64) 35 hp2
              have vp3 := fop_w (op := .sub) (k := .f64) 35 hp3
              have vp4 := fop_w (op := .add) (k := .f64) 35 hp4
              obtain ⟨kxb, _⟩ := fs_cell_at GX.out (show 2 < 6 by decide)
              rw [Nat.zero_add] at kxb
              obtain ⟨k1b, _⟩ := fs_cell_at P1.out (show 2 < 6 by decide)
              obtain ⟨hxb1, hxb2⟩ := HX.out 2 (by decide)
              have hxbw : wd zs 2 = fI (X 2) := (ab_some hxb1).symm
              rw [hxbw] at kxb hxb1
              obtain ⟨XB, vxb, EXb⟩ := conv_o (b := fI (X 2)) (q := 0) (z := X 2) (by rw [hxb1]; exact EO.int (X 2) (by rw [bd32]; omega)) (by decide)
              obtain ⟨YB, vyb, EYb⟩ := conv_o (D1.out 2 (by decide)) (by decide)
              have dlb := dz_lim (HZ.more HL.out) XL.out (show 2 < 6 by decide)
              obtain ⟨p5, hp5, ep5⟩ := eo_mul64 EB2.out EXb.out (Nat.lt_of_le_of_lt (mul_le HL.out.2.2.1 hxb2) (by decide)) (by decide)
              obtain ⟨p6, hp6, ep6⟩ := eo_mul64 EA2.out EYb.out (Nat.lt_of_le_of_lt (mul_le HL.out.2.2.2.2 dlb) (by decide)) (by decide)
              have b5 := pw_le (J := 4) (mul_le HL.out.2.2.1 hxb2) (by decide)
              have b7 := sb_le b5 (tw_le (mul_le HL.out.2.2.2.2 dlb))
              obtain ⟨p7, hp7, ep7⟩ := eo_sub64 (q := 4 + 1) (up64 ep5 4 (by decide)) (up1_64 ep6 (by decide)) (Nat.lt_of_le_of_lt b7 (by decide))
              obtain ⟨p8, hp8, ep8⟩ := eo_add64 (q := 4 + 1) ep4 ep7 (Nat.lt_of_le_of_lt (ad_le b4 b7) (by decide))
              have vp5 := fop_w (op := .mul) (k := .f64) 35 hp5
              have vp6 := fop_w (op := .mul) (k := .f64) 35 hp6
              have vp7 := fop_w (op := .sub) (k := .f64) 35 hp7
              have vp8 := fop_w (op := .add) (k := .f64) 35 hp8
              have ow : FloatKind.f64.format.order YW p8 = some .eq := eo_eq EY.out (ep8.cast (dz2 h X 2).symm)
              clear z1 z2 z3 z4 tw ht hp0 ep0 hp1 ep1 hp2 ep2 hp3 ep3 hp4 ep4 b0 b1 b3 b4 hx1 hx2 hxa1 hxa2 hxw hxaw dla EX EY EXa EYa hp5 ep5 hp6 ep6 hp7 ep7 hp8 ep8 b5 b7 hxb1 hxb2 hxbw dlb EXb EYb
              go_wp2
              go_region
              go_wp2
              clear vb0 f0 vx vp0 kx gc1 gc2 gc3 gc4
              as_aux_lemma =>
                go_region
                go_wp2
                clear vb1 va1 f1 f3 vxa vya kxa k1a vp1 vp2 vp3 vp4
                as_aux_lemma =>
                  go_region
                  go_wp2
                  clear vxb vyb kxb k1b vp5 vp6 vp7 vp8
                  clear vb2 va2 f2 f4
                  as_aux_lemma =>
                    go_region
                    go_wp2
                    refine ⟨⟨5, _, by omega, rfl, rfl⟩, by simp [intOf]⟩
          · as_aux_lemma =>
              obtain ⟨kxa, _⟩ := fs_cell_at GX.out (show 4 < 6 by decide)
              rw [Nat.zero_add] at kxa
              obtain ⟨k1a, _⟩ := fs_cell_at P1.out (show 4 < 6 by decide)
              obtain ⟨hxa1, hxa2⟩ := HX.out 4 (by decide)
              have hxaw : wd zs 4 = fI (X 4) := (ab_some hxa1).symm
              rw [hxaw] at kxa hxa1
              obtain ⟨XA, vxa, EXa⟩ := conv_o (b := fI (X 4)) (q := 0) (z := X 4) (by rw [hxa1]; exact EO.int (X 4) (by rw [bd32]; omega)) (by decide)
              obtain ⟨YA, vya, EYa⟩ := conv_o (D1.out 4 (by decide)) (by decide)
              have dla := dz_lim (HZ.more HL.out) XL.out (show 4 < 6 by decide)
              obtain ⟨p1, hp1, ep1⟩ := eo_mul64 EB1.out EXa.out (Nat.lt_of_le_of_lt (mul_le HL.out.2.1 hxa2) (by decide)) (by decide)
              obtain ⟨p2, hp2, ep2⟩ := eo_mul64 EA1.out EYa.out (Nat.lt_of_le_of_lt (mul_le HL.out.2.2.2.1 dla) (by decide)) (by decide)
              have b1 := pw_le (J := 5) (mul_le HL.out.2.1 hxa2) (by decide)
              have b0 := pw_le (J := 5) (mul_le HL.out.1 hx2) (by decide)
              have b3 := sb_le b1 (mul_le HL.out.2.2.2.1 dla)
              obtain ⟨p3, hp3, ep3⟩ := eo_sub64 (q := 5 + 1) (up64 ep1 5 (by decide)) ep2 (Nat.lt_of_le_of_lt b3 (by decide))
              have b4 := ad_le b0 b3
              obtain ⟨p4, hp4, ep4⟩ := eo_add64 (q := 5 + 1) (up64 ep0 5 (by decide)) ep3 (Nat.lt_of_le_of_lt b4 (by decide))
              have vp1 := fop_w (op := .mul) (k := .f64) 35 hp1
              have vp2 := fop_w (op := .mul) (k := .f64) 35 hp2
              have vp3 := fop_w (op := .sub) (k := .f64) 35 hp3
              have vp4 := fop_w (op := .add) (k := .f64) 35 hp4
              obtain ⟨kxb, _⟩ := fs_cell_at GX.out (show 3 < 6 by decide)
              rw [Nat.zero_add] at kxb
              obtain ⟨k1b, _⟩ := fs_cell_at P1.out (show 3 < 6 by decide)
              obtain ⟨hxb1, hxb2⟩ := HX.out 3 (by decide)
              have hxbw : wd zs 3 = fI (X 3) := (ab_some hxb1).symm
              rw [hxbw] at kxb hxb1
              obtain ⟨XB, vxb, EXb⟩ := conv_o (b := fI (X 3)) (q := 0) (z := X 3) (by rw [hxb1]; exact EO.int (X 3) (by rw [bd32]; omega)) (by decide)
              obtain ⟨YB, vyb, EYb⟩ := conv_o (D1.out 3 (by decide)) (by decide)
              have dlb := dz_lim (HZ.more HL.out) XL.out (show 3 < 6 by decide)
              obtain ⟨p5, hp5, ep5⟩ := eo_mul64 EB2.out EXb.out (Nat.lt_of_le_of_lt (mul_le HL.out.2.2.1 hxb2) (by decide)) (by decide)
              obtain ⟨p6, hp6, ep6⟩ := eo_mul64 EA2.out EYb.out (Nat.lt_of_le_of_lt (mul_le HL.out.2.2.2.2 dlb) (by decide)) (by decide)
              have b5 := pw_le (J := 5) (mul_le HL.out.2.2.1 hxb2) (by decide)
              have b7 := sb_le b5 (tw_le (mul_le HL.out.2.2.2.2 dlb))
              obtain ⟨p7, hp7, ep7⟩ := eo_sub64 (q := 5 + 1) (up64 ep5 5 (by decide)) (up1_64 ep6 (by decide)) (Nat.lt_of_le_of_lt b7 (by decide))
              obtain ⟨p8, hp8, ep8⟩ := eo_add64 (q := 5 + 1) ep4 ep7 (Nat.lt_of_le_of_lt (ad_le b4 b7) (by decide))
              have vp5 := fop_w (op := .mul) (k := .f64) 35 hp5
              have vp6 := fop_w (op := .mul) (k := .f64) 35 hp6
              have vp7 := fop_w (op := .sub) (k := .f64) 35 hp7
              have vp8 := fop_w (op := .add) (k := .f64) 35 hp8
              have ow : FloatKind.f64.format.order YW p8 = some .eq := eo_eq EY.out (ep8.cast (dz2 h X 3).symm)
              clear z1 z2 z3 z4 tw ht hp0 ep0 hp1 ep1 hp2 ep2 hp3 ep3 hp4 ep4 b0 b1 b3 b4 hx1 hx2 hxa1 hxa2 hxw hxaw dla EX EY EXa EYa hp5 ep5 hp6 ep6 hp7 ep7 hp8 ep8 b5 b7 hxb1 hxb2 hxbw dlb EXb EYb
              go_wp2
              go_region
              go_wp2
              clear vb0 f0 vx vp0 kx gc1 gc2 gc3 gc4
              as_aux_lemma =>
                go_region
                go_wp2
                clear vb1 va1 f1 f3 vxa vya kxa k1a vp1 vp2 vp3 vp4
                as_aux_lemma =>
                  go_region
                  go_wp2
                  clear vxb vyb kxb k1b vp5 vp6 vp7 vp8
                  clear vb2 va2 f2 f4
                  as_aux_lemma =>
                    go_region
                    go_wp2
                    refine ⟨⟨6, _, by omega, rfl, rfl⟩, by simp [intOf]⟩
      · have hj6 : j = 6 := by omega
        subst hj6
        go_wp2
        go_ret
        exact ⟨rfl, since_drewN S8.out _⟩
end Go.Proofs.Ytbhigpfpnbdilaa

