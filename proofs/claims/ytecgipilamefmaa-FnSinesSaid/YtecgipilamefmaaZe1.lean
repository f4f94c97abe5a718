/- Joined: Hc Hd He Hf Hg Jk Hh P1 Fp P3 P4 P5 -/
import Derived.Test.YtecgipilamefmaaZc1
import Derived.BigQuiet
import Derived.Test.YtecgipilamefmaaSc
import Derived.Test.YtecgipilamefmaaFr
import Derived.Test.YtecgipilamefmaaFi
import Derived.Test.YtecgipilamefmaaFw
import Derived.Test.YtecgipilamefmaaP6
/- Draws: bytes that can be read, and the source of draws. -/
set_option linter.unusedVariables false
set_option linter.unusedSimpArgs false
namespace Go.Proofs.Ytecgipilamefmaa
open Fl Go.RowKit
theorem and255u (z : Int) : 0 ≤ wrap64 (bits BinOp.and IntKind.u64 z 255) ∧ wrap64 (bits BinOp.and IntKind.u64 z 255) < 256 := by
  have h : bits BinOp.and IntKind.u64 z 255 = z % 256 := by
    have hb : (BitVec.ofInt 64 255).toNat = 255 := by decide
    have ha : (BitVec.ofInt 64 z).toNat = (z % 18446744073709551616).toNat := by rw [BitVec.toNat_ofInt]; rfl
    have hw : ∀ n : Nat, n < 256 → IntKind.u64.wrap (n : Int) = n := fun n h => by rw [IntKind.wrap_u64]; omega
    show IntKind.u64.wrap (((BitVec.ofInt 64 z &&& BitVec.ofInt 64 255).toNat : Nat) : Int) = _
    rw [BitVec.toNat_and, ha, hb]
    have e : ∀ n : Nat, n &&& 255 = n % 256 := fun n => Nat.and_two_pow_sub_one_eq_mod n 8
    rw [e, hw _ (Nat.mod_lt _ (by decide))]
    omega
  rw [h]
  unfold wrap64
  omega
/-- bytes that can be read -/
def Bs (w : World) (B : Nat) (A : Option Addr) (n : Nat) (xs : List Int) : Prop :=
  xs.length = n ∧ (∀ k, 0 ≤ wi xs k ∧ wi xs k < 256) ∧ (0 < n → ∃ g off, A = some ⟨g, off, none⟩ ∧ g < B ∧ ∀ k, k < n → w.cell? ⟨g, off + k, none⟩ = some (.int .u8 (wi xs k)))
theorem Bs.keep {w w' : World} {B : Nat} {A : Option Addr} {n : Nat} {xs : List Int} (h : Bs w B A n xs) (hk : ∀ g o, g < B → w'.cell? ⟨g, o, none⟩ = w.cell? ⟨g, o, none⟩) : Bs w' B A n xs :=
  ⟨h.1, h.2.1, fun hn => by
    obtain ⟨g, off, e, hg, hc⟩ := h.2.2 hn
    exact ⟨g, off, e, hg, fun k hk' => (hk g _ hg).trans (hc k hk')⟩⟩
theorem Bs.more {w : World} {B B' : Nat} {A : Option Addr} {n : Nat} {xs : List Int} (h : Bs w B A n xs) (hB : B ≤ B') : Bs w B' A n xs :=
  ⟨h.1, h.2.1, fun hn => by
    obtain ⟨g, off, e, hg, hc⟩ := h.2.2 hn
    exact ⟨g, off, e, by omega, hc⟩⟩
theorem Bs.since {w w' : World} {B B' : Nat} {A : Option Addr} {n : Nat} {xs : List Int} (h : Bs w B A n xs) (hs : w.Since B' w') (hB : B ≤ B') : Bs w' B A n xs :=
  h.keep fun g o hg => hs.cell (a := ⟨g, o, none⟩) (by show g < B'; omega)
theorem Bs.drewN {w : World} {B : Nat} {A : Option Addr} {n : Nat} {xs : List Int} (h : Bs w B A n xs) (m : Nat) : Bs (w.drewN m) B A n xs := h.keep fun _ _ _ => rfl
/-- a source's block -/
def SrcB (w : World) (b : Nat) (A : Option Addr) (n c : Nat) (i sd : Int) : Prop := w.heap[b]? = some (.cells #[.slice A n c, .int .i64 i, .int .u64 sd] 74 (0, 0))
theorem SrcB.lt {w : World} {b n c : Nat} {A : Option Addr} {i sd : Int} (h : SrcB w b A n c i sd) : b < w.heap.size := (Array.getElem?_eq_some_iff.1 h).1
theorem SrcB.c0 {w : World} {b n c : Nat} {A : Option Addr} {i sd : Int} (h : SrcB w b A n c i sd) : w.cell? ⟨b, 0, none⟩ = some (.slice A n c) := by unfold SrcB at h; simp [World.cell?, h]
theorem SrcB.c1 {w : World} {b n c : Nat} {A : Option Addr} {i sd : Int} (h : SrcB w b A n c i sd) : w.cell? ⟨b, 1, none⟩ = some (.int .i64 i) := by unfold SrcB at h; simp [World.cell?, h]
theorem SrcB.c2 {w : World} {b n c : Nat} {A : Option Addr} {i sd : Int} (h : SrcB w b A n c i sd) : w.cell? ⟨b, 2, none⟩ = some (.int .u64 sd) := by unfold SrcB at h; simp [World.cell?, h]
theorem SrcB.free {w : World} {b n c q : Nat} {A : Option Addr} {i sd : Int} (h : SrcB w b A n c i sd) : w.frozen? ⟨b, q, none⟩ = false := by unfold SrcB at h; simp [World.frozen?, h]
theorem SrcB.of {w w' : World} {b n c : Nat} {A : Option Addr} {i sd : Int} (h : SrcB w b A n c i sd) (e : w'.heap[b]? = w.heap[b]?) : SrcB w' b A n c i sd := e.trans h
theorem SrcB.set1 {w : World} {b n c : Nat} {A : Option Addr} {i sd i' : Int} (h : SrcB w b A n c i sd) : SrcB (w.setCell ⟨b, 1, none⟩ (.int .i64 i')) b A n c i' sd := by
  unfold SrcB at h ⊢
  simp [World.setCell, Array.getElem?_modify, h]
theorem SrcB.set2 {w : World} {b n c : Nat} {A : Option Addr} {i sd sd' : Int} (h : SrcB w b A n c i sd) : SrcB (w.setCell ⟨b, 2, none⟩ (.int .u64 sd')) b A n c i sd' := by
  unfold SrcB at h ⊢
  simp [World.setCell, Array.getElem?_modify, h]
/-- a source in block b that has drawn at most K times, whose bytes lie in blocks before B -/
def Src (B b K : Nat) (w : World) : Prop := ∃ (A : Option Addr) (n c : Nat) (xs : List Int) (i sd : Int), SrcB w b A n c i sd ∧ Bs w B A n xs ∧ B ≤ b ∧ n ≤ 1048576 ∧ 0 ≤ i ∧ i ≤ (K : Int)
theorem Src.on {B b K : Nat} {w w' : World} (h : Src B b K w) (hs : w.Since (b + 1) w') : Src B b K w' := by
  obtain ⟨A, n, c, xs, i, sd, h1, h2, h3, h4, h5⟩ := h
  exact ⟨A, n, c, xs, i, sd, h1.of (hs.block b (by omega)), h2.since hs (by omega), h3, h4, h5⟩
theorem Src.up {B b K K' : Nat} {w : World} (h : Src B b K w) (hK : K ≤ K') : Src B b K' w := by
  obtain ⟨A, n, c, xs, i, sd, h1, h2, h3, h4, h5, h6⟩ := h
  exact ⟨A, n, c, xs, i, sd, h1, h2, h3, h4, h5, by omega⟩
theorem Src.lt {B b K : Nat} {w : World} (h : Src B b K w) : b < w.heap.size := by
  obtain ⟨A, n, c, xs, i, sd, h1, h2, h3, h4, h5, h6⟩ := h
  exact h1.lt
theorem Src.drewN {B b K : Nat} {w : World} (h : Src B b K w) (m : Nat) : Src B b K (w.drewN m) := h.on (since_drewN (World.Since.refl _ _) m)
theorem on_post {b lo : Nat} {w a c : World} (h : On b w a) (s : a.Since lo c) (hl : w.heap.size ≤ lo) (hb : b < w.heap.size) : On b w c :=
  ⟨h.1.trans (since_mono s (by omega)), fun x hx hn => (s.block x (by omega)).trans (h.2 x hx hn)⟩
theorem Src.low {B b K : Nat} {w : World} (h : Src B b K w) : B ≤ b := by
  obtain ⟨A, n, c, xs, i, sd, h1, h2, h3, h4, h5, h6⟩ := h
  exact h3
set_option maxHeartbeats 4000000 in
set_option maxRecDepth 100000 in
theorem next_any (B b K : Nat) (w : World) (h : Src B b K w) (hK : K ≤ 1000000000) :
    Calls Try.prog 76 #[.pointer (some ⟨b, 0, none⟩)] w fun e w' => ∃ v : Int, e = .returned (.int .i64 v) ∧ 0 ≤ v ∧ v < 256 ∧ Src B b (K + 1) w' ∧ On b w w' := by
  obtain ⟨A, n, c, xs, i, sd, h1, h2, h3, h4, h5, h6⟩ := h
  have H1 := Lib.hid h1; have H2 := Lib.hid h2
  have c0 := h1.c0; have c1 := h1.c1; have c2 := h1.c2
  have f1 := h1.free (q := 1); have f2 := h1.free (q := 2)
  clear h1 h2
  by_cases hi : i < (n : Int)
  · have hd : decide (i < (n : Int)) = true := decide_eq_true hi
    have hd2 : decide (i + 1 ≤ (n : Int)) = true := decide_eq_true (by omega)
    obtain ⟨j, rfl⟩ := Int.eq_ofNat_of_zero_le h5
    obtain ⟨g, off, rfl, hg, hc⟩ := H2.out.2.2 (by omega)
    have hcell := hc j (by omega)
    have hv := H2.out.2.1 j
    clear hc
    go_enter Try.func76, Try.ntmps76
    go_wp2_with fail
    go_quiet (fail)
    go_wp2_with fail
    go_quiet (fail)
    go_wp2_with fail
    generalize IntKind.wrap .u64 (IntKind.wrap .u64 (_ + _) + 1442695040888963407) = sd'
    generalize hW : World.setCell _ _ _ = W
    have B1 : Hid (SrcB W b (some ⟨g, off, none⟩) n c ((j : Int) + 1) sd') := Lib.hid (by rw [← hW]; exact H1.out.set1.set2)
    have O1 : Hid (On b w W) := Lib.hid (by rw [← hW]; exact ((On.refl _ _).set _ _).set _ _)
    have d0 := B1.out.c0; have d1 := B1.out.c1; have d2 := B1.out.c2
    clear hW
    go_quiet (fail)
    go_wp2
    go_ret
    exact ⟨_, rfl, hv.1, hv.2, ⟨_, n, c, xs, _, sd', B1.out, by first | exact (H2.out.since O1.out.1 h3).drewN _ | exact ((H2.out.since O1.out.1 h3).drewN _).drewN _, h3, h4, by omega, by omega⟩, by first | exact O1.out.drewN _ | exact (O1.out.drewN _).drewN _⟩
  · have hd : decide (i < (n : Int)) = false := decide_eq_false hi
    have hd2 : decide (i + 1 ≤ (n : Int)) = false := decide_eq_false (by omega)
    go_enter Try.func76, Try.ntmps76
    go_wp2_with fail
    go_quiet (fail)
    go_wp2_with fail
    generalize IntKind.wrap .u64 (IntKind.wrap .u64 _ + 1442695040888963407) = sd'
    generalize hW : World.setCell _ _ _ = W
    have B1 : Hid (SrcB W b A n c (i + 1) sd') := Lib.hid (by rw [← hW]; exact H1.out.set1.set2)
    have O1 : Hid (On b w W) := Lib.hid (by rw [← hW]; exact ((On.refl _ _).set _ _).set _ _)
    have d0 := B1.out.c0; have d1 := B1.out.c1; have d2 := B1.out.c2
    clear hW
    go_quiet (fail)
    go_wp2
    go_ret
    have h255 := and255u (sd' / 1099511627776)
    exact ⟨_, rfl, h255.1, h255.2, ⟨_, n, c, xs, _, sd', B1.out, by first | exact (H2.out.since O1.out.1 h3).drewN _ | exact ((H2.out.since O1.out.1 h3).drewN _).drewN _, h3, h4, by omega, by omega⟩, by first | exact O1.out.drewN _ | exact (O1.out.drewN _).drewN _⟩
end Go.Proofs.Ytecgipilamefmaa

/- Draws: picks of numbers. -/
set_option linter.unusedVariables false
set_option linter.unusedSimpArgs false
namespace Go.Proofs.Ytecgipilamefmaa
open Fl Go.RowKit
set_option maxHeartbeats 4000000 in
set_option maxRecDepth 100000 in
theorem pick_any (B b K : Nat) (n : Int) (w : World) (h : Src B b K w) (hK : K ≤ 1000000) (hn : n ≤ 1000000000) :
    Calls Try.prog 51 #[.pointer (some ⟨b, 0, none⟩), .int .i64 n] w fun e w' => ∃ v : Int, e = .returned (.int .i64 v) ∧ 0 ≤ v ∧ (1 ≤ n → v < n) ∧ Src B b (K + 2) w' ∧ On b w w' := by
  by_cases h1 : n ≤ 1
  · have hd : decide (n ≤ 1) = true := decide_eq_true h1
    go_enter Try.func51, Try.ntmps51
    go_wp2
    go_ret
    exact ⟨0, rfl, by omega, fun _ => by omega, h.up (by omega), On.refl _ _⟩
  · have hd : decide (n ≤ 1) = false := decide_eq_false h1
    have hz : n ≠ 0 := by omega
    have HH := Lib.hid h; clear h
    by_cases h2 : 200 < n
    · have hd2 : decide (200 < n) = true := decide_eq_true h2
      go_enter Try.func51, Try.ntmps51
      go_wp2_with fail
      refine (next_any B b K w HH.out (by omega)).mono ?_
      rintro e w1 ⟨v1, rfl, a1, a2, s1, o1⟩
      have S1 := Lib.hid s1; have O1 := Lib.hid o1; clear s1 o1
      go_wp2_with fail
      refine (next_any B b (K + 1) w1 S1.out (by omega)).mono ?_
      rintro e w2 ⟨v2, rfl, a3, a4, s2, o2⟩
      have S2 := Lib.hid s2; have O2 := Lib.hid o2; clear s2 o2
      go_wp2
      go_ret
      exact ⟨_, rfl, by exact Int.emod_nonneg _ hz, fun _ => by exact Int.emod_lt_of_pos _ (by omega), S2.out, O1.out.trans O2.out⟩
    · have hd2 : decide (200 < n) = false := decide_eq_false h2
      go_enter Try.func51, Try.ntmps51
      go_wp2_with fail
      refine (next_any B b K w HH.out (by omega)).mono ?_
      rintro e w1 ⟨v1, rfl, a1, a2, s1, o1⟩
      have S1 := Lib.hid s1; have O1 := Lib.hid o1; clear s1 o1
      go_wp2
      go_ret
      exact ⟨_, rfl, by exact Int.emod_nonneg _ hz, fun _ => by exact Int.emod_lt_of_pos _ (by omega), S1.out.up (by omega), O1.out⟩
theorem one_any (B b K : Nat) (n : Int) (w : World) (h : Src B b K w) (hK : K ≤ 1000000) (hn : n ≤ 1000000000) :
    Calls Try.prog 56 #[.pointer (some ⟨b, 0, none⟩), .int .i64 n] w fun e w' => ∃ v : Bool, e = .returned (.bool v) ∧ Src B b (K + 2) w' ∧ On b w w' := by
  have HH := Lib.hid h; clear h
  go_enter Try.func56, Try.ntmps56
  go_wp2_with fail
  refine (pick_any B b K n w HH.out hK hn).mono ?_
  rintro e w1 ⟨v1, rfl, a1, a2, s1, o1⟩
  have S1 := Lib.hid s1; have O1 := Lib.hid o1; clear s1 o1
  go_wp2
  go_ret
  exact ⟨_, rfl, S1.out, O1.out⟩
/-- one of a list of numbers that lie in a block of their own -/
theorem among_any (B b K g n : Nat) (xs : List Int) (w : World) (h : Src B b K w) (hK : K ≤ 1000000) (hx : Is w w.heap.size (some ⟨g, 0, none⟩) n xs) (h0 : 0 < n) (hn : n ≤ 1000000) (hg : b < g) (hlt : g < w.heap.size) :
    Calls Try.prog 78 #[.pointer (some ⟨b, 0, none⟩), .slice (some ⟨g, 0, none⟩) n n] w fun e w' => ∃ k : Nat, e = .returned (.int .i64 (wi xs k)) ∧ k < n ∧ Src B b (K + 2) w' ∧ On b w w' := by
  have HH := Lib.hid h; have HX := Lib.hid hx; clear h hx
  go_enter Try.func78, Try.ntmps78
  go_wp2_with fail
  refine (pick_any B b K n w HH.out hK (by omega)).mono ?_
  rintro e w1 ⟨v1, rfl, a1, a2, s1, o1⟩
  have S1 := Lib.hid s1; have O1 := Lib.hid o1; clear s1 o1
  obtain ⟨k, rfl⟩ := Int.eq_ofNat_of_zero_le a1
  have hk : k < n := by have := a2 (by omega); omega
  have hcell : w1.cell? ⟨g, k, none⟩ = some (.int .i64 (wi xs k)) := by
    obtain ⟨g', off, e, hg', hc⟩ := HX.out.2 h0
    injection e with e
    injection e with e1 e2
    subst e1; subst e2
    have := hc k hk
    rw [Nat.zero_add] at this
    exact (cell_of_block (O1.out.2 g hlt (by omega)) _).trans this
  go_wp2
  go_ret
  exact ⟨k, rfl, hk, S1.out, O1.out⟩
end Go.Proofs.Ytecgipilamefmaa

/- Draws: numbers and lists of numbers, of any bits. -/
set_option linter.unusedVariables false
set_option linter.unusedSimpArgs false
namespace Go.Proofs.Ytecgipilamefmaa
open Fl Go.RowKit
set_option maxHeartbeats 4000000 in
set_option maxRecDepth 100000 in
theorem plain_any (B b K : Nat) (w : World) (h : Src B b K w) (hK : K ≤ 900000) :
    Calls Try.prog 46 #[.pointer (some ⟨b, 0, none⟩)] w fun e w' => ∃ q Q, e = .returned (.float .f32 q) ∧ Hid (Fv .f32 q Q) ∧ Src B b (K + 4) w' ∧ On b w w' := by
  have HH := Lib.hid h; clear h
  go_enter Try.func46, Try.ntmps46
  go_wp2_with fail
  refine (pick_any B b K 129 w HH.out (by omega) (by omega)).mono ?_
  rintro e w1 ⟨v1, rfl, a1, a2, s1, o1⟩
  have a3 := a2 (by omega)
  have S1 := Lib.hid s1; have O1 := Lib.hid o1; clear s1 o1 a2
  go_wp2_with fail
  refine (one_any B b (K + 2) 4 w1 S1.out (by omega) (by omega)).mono ?_
  rintro e w2 ⟨v2, rfl, s2, o2⟩
  have S2 := Lib.hid s2; have O2 := Lib.hid o2; clear s2 o2
  have q1 := fI_fv (v1 - 64)
  have q7 : Hid (Fv .f32 1088421888 (some 1088421888)) := fvc (by decide) (by decide)
  have q16 : Hid (Fv .f32 1098907648 (some 1098907648)) := fvc (by decide) (by decide)
  cases v2
  all_goals
    go_wp2_with (with_reducible_and_instances refine Lo.wpList_fo _ rfl _ _ _ _ _ rfl _ _ _ _ _ rfl rfl rfl (by assumption) (by assumption) ?_; intro rr nn hrr)
    go_ret
    exact ⟨_, _, rfl, hrr, S2.out.drewN _, (O1.out.trans O2.out).drewN _⟩
theorem is_alloc (w : World) (T : TypeId) (xs : List Int) : Is (w.alloc (.cells (xs.map (Value.int .i64)).toArray T)) (w.alloc (.cells (xs.map (Value.int .i64)).toArray T)).heap.size (some ⟨w.heap.size, 0, none⟩) xs.length xs :=
  ⟨rfl, fun _ => ⟨w.heap.size, 0, rfl, by simp, fun k hk => by
    have h := Go.Deep.blk_alloc_new w (.cells (xs.map (Value.int .i64)).toArray T)
    rw [Nat.zero_add]
    unfold World.cell?
    simp only [h]
    simp [hk, iv, wi]⟩⟩
def numsA : List Int := [0, 2147483648, 2139095040, 4286578688, 2143289344, 1, 2139095039, 8388608, 8388607, 2147483649]
def numsB : List Int := [8388608, 2130706432, 1610612736, 536870912]
theorem numsA_in : ∀ k, k < 10 → 0 ≤ wi numsA k ∧ wi numsA k < 4294967296 := by decide
theorem numsB_in : ∀ k, k < 4 → 0 ≤ wi numsB k ∧ wi numsB k < 4294967296 := by decide
theorem from_int (z : Int) (h0 : 0 ≤ z) (h1 : z < 4294967296) (w : World) : Calls Try.prog 57 #[.int .i64 z] w fun e w' => ∃ q, e = .returned (.float .f32 q) ∧ Hid (Fv .f32 q (ab .f32 q)) ∧ w = w' := by
  obtain ⟨m, rfl⟩ := Int.eq_ofNat_of_zero_le h0
  have hm : m < 4294967296 := by omega
  exact (l01From_any m w hm).mono fun e w' ⟨h1, h2⟩ => ⟨m, h1, Lib.hid ⟨hm, rfl⟩, h2⟩
set_option maxHeartbeats 4000000 in
set_option maxRecDepth 100000 in
theorem float_any (B b K : Nat) (w : World) (h : Src B b K w) (hK : K ≤ 800000) :
    Calls Try.prog 58 #[.pointer (some ⟨b, 0, none⟩)] w fun e w' => ∃ q Q, e = .returned (.float .f32 q) ∧ Hid (Fv .f32 q Q) ∧ Src B b (K + 12) w' ∧ On b w w' := by
  have HH := Lib.hid h
  have hlt := h.lt
  clear h
  go_enter Try.func58, Try.ntmps58
  go_wp2_with fail
  refine (one_any B b K 12 w HH.out (by omega) (by omega)).mono ?_
  rintro e w1 ⟨v1, rfl, s1, o1⟩
  have S1 := Lib.hid s1; have O1 := Lib.hid o1; clear s1 o1
  cases v1
  · go_wp2_with fail
    refine (plain_any B b (K + 2) w1 S1.out (by omega)).mono ?_
    rintro e w2 ⟨q, Q, rfl, hq, s2, o2⟩
    have S2 := Lib.hid s2; have O2 := Lib.hid o2; clear s2 o2
    go_wp2
    go_ret
    exact ⟨_, _, rfl, hq, S2.out.up (by omega), O1.out.trans O2.out⟩
  · go_wp2_with fail
    refine (pick_any B b (K + 2) 4 w1 S1.out (by omega) (by omega)).mono ?_
    rintro e w2 ⟨v, rfl, a1, a2, s2, o2⟩
    have a3 := a2 (by omega)
    have S2 := Lib.hid s2; have O2 := Lib.hid (O1.out.trans o2); clear s2 o2 a2
    have hlt2 : b < w2.heap.size := S2.out.lt
    by_cases h0 : v = 0
    · subst h0
      go_wp2_with fail
      generalize hW : World.alloc _ _ = W
      have X1 : Hid (Is W W.heap.size (some ⟨w2.heap.size, 0, none⟩) 10 numsA) := Lib.hid (by rw [← hW]; exact is_alloc w2 2 numsA)
      have Z1 : Hid (W.heap.size = w2.heap.size + 1) := Lib.hid (by rw [← hW]; simp)
      have O3 : Hid (On b w W) := Lib.hid (by rw [← hW]; exact O2.out.alloc (by omega) _)
      have S3 : Hid (Src B b (K + 4) W) := Lib.hid (S2.out.on (by rw [← hW]; exact (World.Since.refl _ _).alloc (by omega) _))
      clear hW
      have hz := Z1.out
      refine (among_any B b (K + 4) w2.heap.size 10 numsA W S3.out (by omega) X1.out (by omega) (by omega) hlt2 (by omega)).mono ?_
      rintro e w3 ⟨k, rfl, hk, s4, o4⟩
      have S4 := Lib.hid s4; have O4 := Lib.hid (O3.out.trans o4); clear s4 o4
      have hm := numsA_in k hk
      generalize wi numsA k = m at *
      go_wp2_with fail
      refine (from_int m hm.1 hm.2 _).mono ?_
      rintro e w5 ⟨q, rfl, hq, rfl⟩
      go_wp2
      go_ret
      exact ⟨_, _, rfl, hq, S4.out.up (by omega), O4.out⟩
    · by_cases h1 : v = 1
      · subst h1
        go_wp2_with fail
        refine (pick_any B b (K + 4) 65536 w2 S2.out (by omega) (by omega)).mono ?_
        rintro e w3 ⟨v3, rfl, b1, b2, s3, o3⟩
        have b3 := b2 (by omega)
        have S3 := Lib.hid s3; have O3 := Lib.hid (O2.out.trans o3); clear s3 o3 b2
        go_wp2_with fail
        refine (pick_any B b (K + 4 + 2) 65536 w3 S3.out (by omega) (by omega)).mono ?_
        rintro e w4 ⟨v4, rfl, c1, c2, s4, o4⟩
        have c3 := c2 (by omega)
        have S4 := Lib.hid s4; have O4 := Lib.hid (O3.out.trans o4); clear s4 o4 c2
        go_wp2_with fail
        refine (from_int (v3 * 65536 + v4) (by omega) (by omega) _).mono ?_
        rintro e w5 ⟨q, rfl, hq, rfl⟩
        go_wp2
        go_ret
        exact ⟨_, _, rfl, hq, S4.out.up (by omega), O4.out⟩
      · by_cases h2 : v = 2
        · subst h2
          go_wp2_with fail
          refine (pick_any B b (K + 4) 65536 w2 S2.out (by omega) (by omega)).mono ?_
          rintro e w3 ⟨v3, rfl, b1, b2, s3, o3⟩
          have b3 := b2 (by omega)
          have S3 := Lib.hid s3; have O3 := Lib.hid (O2.out.trans o3); clear s3 o3 b2
          go_wp2_with fail
          refine (from_int (v3 * 65536) (by omega) (by omega) _).mono ?_
          rintro e w5 ⟨q, rfl, hq, rfl⟩
          go_wp2
          go_ret
          exact ⟨_, _, rfl, hq, S3.out.up (by omega), O3.out⟩
        · have e0 : decide (v = 0) = false := decide_eq_false h0
          have e1 : decide (v = 1) = false := decide_eq_false h1
          have e2 : decide (v = 2) = false := decide_eq_false h2
          have g0 : (v == 0) = false := by simpa using h0
          have g1 : (v == 1) = false := by simpa using h1
          have g2 : (v == 2) = false := by simpa using h2
          go_wp2_with fail
          refine (plain_any B b (K + 4) w2 S2.out (by omega)).mono ?_
          rintro e w3 ⟨q, Q, rfl, hq, s3, o3⟩
          have S3 := Lib.hid s3; have O3 := Lib.hid (O2.out.trans o3); clear s3 o3
          have hlt3 : b < w3.heap.size := S3.out.lt
          go_wp2_with fail
          generalize hW : World.alloc _ _ = W
          have X1 : Hid (Is W W.heap.size (some ⟨w3.heap.size, 0, none⟩) 4 numsB) := Lib.hid (by rw [← hW]; exact is_alloc w3 2 numsB)
          have Z1 : Hid (W.heap.size = w3.heap.size + 1) := Lib.hid (by rw [← hW]; simp)
          have O5 : Hid (On b w W) := Lib.hid (by rw [← hW]; exact O3.out.alloc (by omega) _)
          have S5 : Hid (Src B b (K + 4 + 4) W) := Lib.hid (S3.out.on (by rw [← hW]; exact (World.Since.refl _ _).alloc (by omega) _))
          clear hW
          have hz := Z1.out
          refine (among_any B b (K + 4 + 4) w3.heap.size 4 numsB W S5.out (by omega) X1.out (by omega) (by omega) hlt3 (by omega)).mono ?_
          rintro e w6 ⟨k, rfl, hk, s6, o6⟩
          have S6 := Lib.hid s6; have O6 := Lib.hid (O5.out.trans o6); clear s6 o6
          have hm := numsB_in k hk
          generalize wi numsB k = m at *
          go_wp2_with fail
          refine (from_int m hm.1 hm.2 _).mono ?_
          rintro e w7 ⟨q2, rfl, hq2, rfl⟩
          go_wp2_with (with_reducible_and_instances refine Lo.wpList_fo _ rfl _ _ _ _ _ rfl _ _ _ _ _ rfl rfl rfl (by assumption) (by assumption) ?_; intro rr nn hrr)
          go_ret
          exact ⟨_, _, rfl, hrr, (S6.out.up (by omega)).drewN _, O6.out.drewN _⟩
end Go.Proofs.Ytecgipilamefmaa

/- Draws: lists of numbers, and what chooses by a byte. -/
set_option linter.unusedVariables false
set_option linter.unusedSimpArgs false
namespace Go.Proofs.Ytecgipilamefmaa
open Fl Go.RowKit
/-- a row of numbers whatever they are -/
def RwA (lo : Nat) (w : World) (v : Value) (k : Nat) : Prop := (∃ F, Rw lo w v k F) ∧ ∃ g c, v = .slice (some ⟨g, 0, none⟩) k c
theorem Rw.like {lo : Nat} {w : World} {v : Value} {k : Nat} {F G : Nat → O} (h : Rw lo w v k F) (e : ∀ j, j < k → F j = G j) : Rw lo w v k G := by
  obtain ⟨os, h1, h2, h3⟩ := h
  exact ⟨os, h1, h2, fun j hj => (h3 j hj).trans (e j hj)⟩
theorem Rw.fin {lo : Nat} {w : World} {v : Value} {k : Nat} {F : Nat → O} (h : Rw lo w v k F) : ∃ (A : Option Addr) (c : Nat) (xs : List Nat), v = .slice A k c ∧ k ≤ c ∧ (A = none → k = 0 ∧ c = 0) ∧ (∀ a, A = some a → ∃ g, a = ⟨g, 0, none⟩ ∧ lo ≤ g) ∧ Gs 22 w lo A k xs ∧ Are ⟨A, k, xs⟩ F := by
  obtain ⟨os, h1, hs, hf⟩ := h
  rcases h1.2 with ⟨rfl, rfl⟩ | ⟨g, cap, cur, rfl, hg, _, hk, _⟩
  · exact ⟨none, 0, os, rfl, Nat.le_refl _, fun _ => ⟨rfl, rfl⟩, (fun a h => by cases h), Gs.of_own h1 hs, hf⟩
  · exact ⟨some ⟨g, 0, none⟩, cap, os, rfl, hk, (fun h => by cases h), fun a h => by cases h; exact ⟨g, rfl, hg⟩, Gs.of_own h1 hs, hf⟩
theorem RwA.grown {lo : Nat} {w : World} {v : Value} {k : Nat} {F : Nat → O} (h : Rw lo w v (k + 1) F) : RwA lo w v (k + 1) := by
  refine ⟨⟨F, h⟩, ?_⟩
  obtain ⟨A, c, xs, rfl, _, hn, hs, _⟩ := h.fin
  cases A with
  | none => exact absurd (hn rfl).1 (by omega)
  | some a =>
    obtain ⟨g, rfl, _⟩ := hs a rfl
    exact ⟨g, c, rfl⟩
theorem RwA.end_ {lo : Nat} {w : World} {v : Value} {k : Nat} (h : RwA lo w v k) : ∃ g c xs, v = .slice (some ⟨g, 0, none⟩) k c ∧ k ≤ c ∧ Gs 22 w lo (some ⟨g, 0, none⟩) k xs := by
  obtain ⟨⟨F, hF⟩, g, c, rfl⟩ := h
  obtain ⟨A, c', xs, e, hc, _, _, hg, _⟩ := hF.fin
  injection e with e1 e2 e3
  subst e1; subst e3
  exact ⟨g, c, xs, rfl, hc, hg⟩
theorem RwA.pick {lo : Nat} {w : World} {v : Value} {k : Nat} (h : RwA lo w v k) (Q : O) : ∃ F, Rw lo w v k F ∧ F k = Q := by
  obtain ⟨⟨F, hF⟩, _⟩ := h
  exact ⟨fun j => if j = k then Q else F j, hF.like fun j hj => by simp [show j ≠ k by omega], by simp⟩
theorem RwA.on {lo g : Nat} {w w' : World} {v : Value} {k : Nat} (h : RwA lo w v k) (o : On g w w') (hg : g < lo) : RwA lo w' v k := by
  obtain ⟨⟨F, hF⟩, hv⟩ := h
  exact ⟨⟨F, hF.on o hg⟩, hv⟩
/-- numbers that a call has drawn: a list in memory of its own -/
def PDr (n : Nat) (w : World) (e : Ending) (w' : World) : Prop := ∃ (g c : Nat) (xs : List Nat), e = .returned (.slice (some ⟨g, 0, none⟩) n c) ∧ n ≤ c ∧ Gs 22 w' w.heap.size (some ⟨g, 0, none⟩) n xs ∧ w.Since w.heap.size w'
set_option maxHeartbeats 4000000 in
set_option maxRecDepth 100000 in
theorem floats_any (B b K N : Nat) (w : World) (h : Src B b K w) (hK : K ≤ 100000) (hN : N ≤ 10000) :
    Calls Try.prog 52 #[.pointer (some ⟨b, 0, none⟩), .int .i64 (N : Int)] w fun e w' => ∃ (g c : Nat) (xs : List Nat), e = .returned (.slice (some ⟨g, 0, none⟩) N c) ∧ N ≤ c ∧ Gs 22 w' w.heap.size (some ⟨g, 0, none⟩) N xs ∧ Src B b (K + 2 + 12 * N) w' ∧ On b w w' := by
  have HH := Lib.hid h
  have hlt := h.lt
  clear h
  go_enter Try.func52, Try.ntmps52
  go_wp2_with fail
  generalize hW : World.alloc _ _ = W
  have R1 : Hid (RwA w.heap.size W (.slice (some ⟨w.heap.size, 0, none⟩) 0 0) 0) := Lib.hid (by rw [← hW]; exact ⟨⟨fun _ => none, Rw.start w _ (Nat.le_refl _) _⟩, _, _, rfl⟩)
  have O1 : Hid (On b w W) := Lib.hid (by rw [← hW]; exact (On.refl _ _).alloc (by omega) _)
  have S1 : Hid (Src B b K W) := Lib.hid (HH.out.on (by rw [← hW]; exact (World.Since.refl _ _).alloc (by omega) _))
  clear hW
  refine (one_any B b K 4 W S1.out (by omega) (by omega)).mono ?_
  rintro e w1 ⟨st, rfl, s2, o2⟩
  have S2 := Lib.hid s2; have O2 := Lib.hid (O1.out.trans o2); have R2 := Lib.hid (R1.out.on o2 hlt); clear s2 o2 R1 O1 S1
  cases st
  all_goals
    go_wp2_with fail
    go_loopw [1, 5] (fun i v wr => ∃ k : Nat, k ≤ N ∧ i = .int .i64 ((N : Int) - k) ∧ RwA w.heap.size wr v k ∧ Src B b (K + 2 + 12 * k) wr ∧ On b w wr) (fun i _ _ => (intOf i).toNat)
    case atStart => exact ⟨0, Nat.zero_le _, by simp, R2.out, S2.out, O2.out⟩
    case round =>
      obtain ⟨k, hk, rfl, hr, hs, ho⟩ := hrel
      have HR := Lib.hid hr; have HS := Lib.hid hs; have HO := Lib.hid ho
      clear hr hs ho
      by_cases hlt2 : k < N
      · have hd : decide (0 < (N : Int) - k) = true := decide_eq_true (by omega)
        go_wp2_with fail
        first
        | refine (plain_any B b (K + 2 + 12 * k) wr HS.out (by omega)).mono ?_
        | refine (float_any B b (K + 2 + 12 * k) wr HS.out (by omega)).mono ?_
        rintro e w3 ⟨q, Q, rfl, hq, s3, o3⟩
        have S3 : Hid (Src B b (K + 2 + 12 * (k + 1)) w3) := Lib.hid (s3.up (by omega))
        have O3 := Lib.hid (HO.out.trans o3); have R3 := Lib.hid (HR.out.on o3 hlt)
        clear s3 o3
        obtain ⟨F, hF, hFk⟩ := R3.out.pick Q
        have hlo : w.heap.size ≤ w3.heap.size := O3.out.1.size
        have HF := Lib.hid hF; clear hF
        have hz : Hid (Fv .f32 q (F k)) := by rw [hFk]; exact hq
        have hlt3 : b < w3.heap.size := by omega
        go_wp2_with (first | (at_builtin; refine wpList_app1 rfl (.tmp 20) (.tmp 23) rfl w.heap.size _ k _ rfl _ _ rfl (by simp [go_sem]) (by omega) (by simp; omega) hz (HF.out.alloc _) ?_; intro v' w4 hR4 hS4) | (at_builtin; refine wpList_app1 rfl (.tmp 15) (.tmp 18) rfl w.heap.size _ k _ rfl _ _ rfl (by simp [go_sem]) (by omega) (by simp; omega) hz (HF.out.alloc _) ?_; intro v' w4 hR4 hS4))
        have hs4 : w3.Since w.heap.size w4 := ((World.Since.refl _ _).alloc hlo _).trans hS4.out
        have HS4 := Lib.hid hs4; clear hs4
        go_roundw
        case rel => exact ⟨k + 1, by omega, by go_num, RwA.grown hR4.out, S3.out.on (since_mono HS4.out (by omega)), on_post O3.out HS4.out (Nat.le_refl _) hlt⟩
        case measure => simp [intOf]; omega
      · have hd : decide (0 < (N : Int) - k) = false := decide_eq_false (by omega)
        obtain rfl : k = N := by omega
        obtain ⟨g, cp, zs, rfl, hcp, hg⟩ := HR.out.end_
        have HG := Lib.hid hg; clear hg
        go_wp2
        go_ret
        exact ⟨g, cp, zs, rfl, hcp, HG.out, HS.out, HO.out⟩
end Go.Proofs.Ytecgipilamefmaa

/- Draws: what laws draw of their bytes. -/
set_option linter.unusedVariables false
set_option linter.unusedSimpArgs false
namespace Go.Proofs.Ytecgipilamefmaa
open Fl Go.RowKit
theorem source_any (A : Option Addr) (n c : Nat) (xs : List Int) (w : World) (h : Bs w w.heap.size A n xs) (hn : n ≤ 1048576) :
    Calls Try.prog 45 #[.slice A n c] w fun e w' => e = .returned (.pointer (some ⟨w.heap.size, 0, none⟩)) ∧ Src w.heap.size w.heap.size 0 w' ∧ w.Since w.heap.size w' := by
  have HH := Lib.hid h; clear h
  go_enter Try.func45, Try.ntmps45
  go_wp2
  go_ret
  refine ⟨rfl, ⟨A, n, c, xs, 0, 0, Go.Deep.blk_alloc_new _ _, HH.out.since ((World.Since.refl _ _).alloc (Nat.le_refl _) _) (Nat.le_refl _), Nat.le_refl _, hn, by omega, by omega⟩, (World.Since.refl _ _).alloc (Nat.le_refl _) _⟩
set_option maxHeartbeats 4000000 in
set_option maxRecDepth 100000 in
theorem samples_any (A : Option Addr) (n c : Nat) (xs : List Int) (m : Nat) (w : World) (h : Bs w w.heap.size A n xs) (hn : n ≤ 1048576) (hm : m ≤ 9000) :
    Calls Try.prog 24 #[.slice A n c, .int .i64 (m : Int)] w fun e w' => ∃ k, k ≤ m ∧ PDr k w e w' := by
  have HH := Lib.hid h; clear h
  go_enter Try.func24, Try.ntmps24
  go_wp2_with fail
  refine (source_any A n c xs w HH.out hn).mono ?_
  rintro e w1 ⟨rfl, s1, t1⟩
  have S1 := Lib.hid s1; have T1 := Lib.hid t1; clear s1 t1
  go_wp2_with fail
  refine (pick_any w.heap.size w.heap.size 0 ((m : Int) + 1) w1 S1.out (by omega) (by omega)).mono ?_
  rintro e w2 ⟨v, rfl, a1, a2, s2, o2⟩
  have a3 := a2 (by omega)
  obtain ⟨k, rfl⟩ := Int.eq_ofNat_of_zero_le a1
  have S2 := Lib.hid s2; have T2 := Lib.hid (T1.out.trans (o2.since (Nat.le_refl _))); clear s2 o2
  go_wp2_with fail
  refine (floats_any w.heap.size w.heap.size 2 k w2 S2.out (by omega) (by omega)).mono ?_
  rintro e w3 ⟨g, cp, zs, rfl, hp, hg, s3, o3⟩
  have hz := T2.out.size
  have G3 := Lib.hid (hg.less hz); have T3 := Lib.hid (T2.out.trans (o3.since (Nat.le_refl _))); clear hg s3 o3
  go_wp2
  go_ret
  exact ⟨k, by omega, g, cp, zs, rfl, hp, G3.out, T3.out⟩
set_option maxHeartbeats 4000000 in
set_option maxRecDepth 100000 in
theorem numbers_any (A : Option Addr) (n c : Nat) (xs : List Int) (m : Nat) (w : World) (h : Bs w w.heap.size A n xs) (hn : n ≤ 1048576) (hm : m ≤ 9000) :
    Calls Try.prog 33 #[.slice A n c, .int .i64 (m : Int)] w (PDr m w) := by
  have HH := Lib.hid h; clear h
  go_enter Try.func33, Try.ntmps33
  go_wp2_with fail
  refine (source_any A n c xs w HH.out hn).mono ?_
  rintro e w1 ⟨rfl, s1, t1⟩
  have S1 := Lib.hid s1; have T1 := Lib.hid t1; clear s1 t1
  go_wp2_with fail
  refine (floats_any w.heap.size w.heap.size 0 m w1 S1.out (by omega) (by omega)).mono ?_
  rintro e w3 ⟨g, cp, zs, rfl, hp, hg, s3, o3⟩
  have hz := T1.out.size
  have G3 := Lib.hid (hg.less hz); have T3 := Lib.hid (T1.out.trans (o3.since (Nat.le_refl _))); clear hg s3 o3
  go_wp2
  go_ret
  exact ⟨g, cp, zs, rfl, hp, G3.out, T3.out⟩
set_option maxHeartbeats 4000000 in
set_option maxRecDepth 100000 in
theorem numberD_any (A : Option Addr) (n c : Nat) (xs : List Int) (w : World) (h : Bs w w.heap.size A n xs) (hn : n ≤ 1048576) :
    Calls Try.prog 27 #[.slice A n c] w fun e w' => ∃ q Q, e = .returned (.float .f32 q) ∧ Hid (Fv .f32 q Q) ∧ w.Since w.heap.size w' := by
  have HH := Lib.hid h; clear h
  go_enter Try.func27, Try.ntmps27
  go_wp2_with fail
  refine (source_any A n c xs w HH.out hn).mono ?_
  rintro e w1 ⟨rfl, s1, t1⟩
  have S1 := Lib.hid s1; have T1 := Lib.hid t1; clear s1 t1
  go_wp2_with fail
  refine (one_any w.heap.size w.heap.size 0 2 w1 S1.out (by omega) (by omega)).mono ?_
  rintro e w2 ⟨v, rfl, s2, o2⟩
  have S2 := Lib.hid s2; have T2 := Lib.hid (T1.out.trans (o2.since (Nat.le_refl _))); clear s2 o2
  cases v
  · go_wp2_with fail
    refine (float_any w.heap.size w.heap.size 2 w2 S2.out (by omega)).mono ?_
    rintro e w3 ⟨q, Q, rfl, hq, s3, o3⟩
    have T3 := Lib.hid (T2.out.trans (o3.since (Nat.le_refl _))); clear s3 o3
    go_wp2
    go_ret
    exact ⟨_, _, rfl, hq, T3.out⟩
  · go_wp2_with fail
    refine (pick_any w.heap.size w.heap.size 2 65536 w2 S2.out (by omega) (by omega)).mono ?_
    rintro e w3 ⟨v3, rfl, b1, b2, s3, o3⟩
    have b3 := b2 (by omega)
    have S3 := Lib.hid s3; have T3 := Lib.hid (T2.out.trans (o3.since (Nat.le_refl _))); clear s3 o3 b2
    go_wp2_with fail
    refine (pick_any w.heap.size w.heap.size (2 + 2) 65536 w3 S3.out (by omega) (by omega)).mono ?_
    rintro e w4 ⟨v4, rfl, c1, c2, s4, o4⟩
    have c3 := c2 (by omega)
    have T4 := Lib.hid (T3.out.trans (o4.since (Nat.le_refl _))); clear s4 o4 c2
    go_wp2_with fail
    refine (from_int (v3 * 65536 + v4) (by omega) (by omega) _).mono ?_
    rintro e w5 ⟨q, rfl, hq, rfl⟩
    go_wp2
    go_ret
    exact ⟨_, _, rfl, hq, T4.out⟩
/-- a number below m that a byte chooses -/
theorem r8At_any (A : Option Addr) (n c : Nat) (xs : List Int) (k m : Int) (w : World) (h : Bs w w.heap.size A n xs) (hk : 0 ≤ k) (hk2 : k ≤ 1000000000) :
    Calls Try.prog 25 #[.slice A n c, .int .i64 k, .int .i64 m] w fun e w' => ∃ v : Int, e = .returned (.int .i64 v) ∧ 0 ≤ v ∧ (1 ≤ m → v < m) ∧ w.Since w.heap.size w' := by
  have HH := Lib.hid h; clear h
  obtain ⟨j, rfl⟩ := Int.eq_ofNat_of_zero_le hk
  by_cases h1 : m ≤ 1
  · have hd : decide (m ≤ 1) = true := decide_eq_true h1
    go_enter Try.func25, Try.ntmps25
    go_wp2
    go_ret
    exact ⟨0, rfl, by omega, fun _ => by omega, by (repeat (first | (with_reducible refine Fl.sinDrew ?_) | (with_reducible refine World.Since.drew ?_) | (with_reducible refine Fl.sinSet ?_ ?_; rotate_left) | (with_reducible refine Fl.sinAlloc ?_ ?_; rotate_left) | with_reducible exact World.Since.refl _ _ | with_reducible assumption | (with_reducible refine Fl.sinStep (by with_reducible assumption) ?_))); all_goals (first | omega | (simp; done) | (simp; omega) | (simp [go_sem]; done) | (simp [go_sem]; omega))⟩
  · have hd : decide (m ≤ 1) = false := decide_eq_false h1
    by_cases h2 : (n : Int) ≤ (j : Int)
    · have hd2 : decide ((n : Int) ≤ (j : Int)) = true := decide_eq_true h2
      go_enter Try.func25, Try.ntmps25
      go_wp2
      go_ret
      exact ⟨0, rfl, by omega, fun _ => by omega, by (repeat (first | (with_reducible refine Fl.sinDrew ?_) | (with_reducible refine World.Since.drew ?_) | (with_reducible refine Fl.sinSet ?_ ?_; rotate_left) | (with_reducible refine Fl.sinAlloc ?_ ?_; rotate_left) | with_reducible exact World.Since.refl _ _ | with_reducible assumption | (with_reducible refine Fl.sinStep (by with_reducible assumption) ?_))); all_goals (first | omega | (simp; done) | (simp; omega) | (simp [go_sem]; done) | (simp [go_sem]; omega))⟩
    · have hd2 : decide ((n : Int) ≤ (j : Int)) = false := decide_eq_false h2
      obtain ⟨g, off, rfl, hg, hc⟩ := HH.out.2.2 (by omega)
      have hcell := hc j (by omega)
      have hv := HH.out.2.1 j
      have hz : m ≠ 0 := by omega
      clear hc
      go_enter Try.func25, Try.ntmps25
      go_wp2
      go_ret
      exact ⟨_, rfl, Int.emod_nonneg _ hz, fun _ => Int.emod_lt_of_pos _ (by omega), by (repeat (first | (with_reducible refine Fl.sinDrew ?_) | (with_reducible refine World.Since.drew ?_) | (with_reducible refine Fl.sinSet ?_ ?_; rotate_left) | (with_reducible refine Fl.sinAlloc ?_ ?_; rotate_left) | with_reducible exact World.Since.refl _ _ | with_reducible assumption | (with_reducible refine Fl.sinStep (by with_reducible assumption) ?_))); all_goals (first | omega | (simp; done) | (simp; omega) | (simp [go_sem]; done) | (simp [go_sem]; omega))⟩
theorem b10At_any (A : Option Addr) (n c : Nat) (xs : List Int) (k m : Int) (w : World) (h : Bs w w.heap.size A n xs) (hk : 0 ≤ k) (hk2 : k ≤ 1000000000) :
    Calls Try.prog 18 #[.slice A n c, .int .i64 k, .int .i64 m] w fun e w' => ∃ v : Int, e = .returned (.int .i64 v) ∧ 0 ≤ v ∧ (1 ≤ m → v < m) ∧ w.Since w.heap.size w' := by
  have HH := Lib.hid h; clear h
  obtain ⟨j, rfl⟩ := Int.eq_ofNat_of_zero_le hk
  by_cases h1 : m ≤ 1
  · have hd : decide (m ≤ 1) = true := decide_eq_true h1
    go_enter Try.func18, Try.ntmps18
    go_wp2
    go_ret
    exact ⟨0, rfl, by omega, fun _ => by omega, by (repeat (first | (with_reducible refine Fl.sinDrew ?_) | (with_reducible refine World.Since.drew ?_) | (with_reducible refine Fl.sinSet ?_ ?_; rotate_left) | (with_reducible refine Fl.sinAlloc ?_ ?_; rotate_left) | with_reducible exact World.Since.refl _ _ | with_reducible assumption | (with_reducible refine Fl.sinStep (by with_reducible assumption) ?_))); all_goals (first | omega | (simp; done) | (simp; omega) | (simp [go_sem]; done) | (simp [go_sem]; omega))⟩
  · have hd : decide (m ≤ 1) = false := decide_eq_false h1
    have hz : m ≠ 0 := by omega
    by_cases h2 : (j : Int) < (n : Int)
    · have hd2 : decide ((j : Int) < (n : Int)) = true := decide_eq_true h2
      obtain ⟨g, off, rfl, hg, hc⟩ := HH.out.2.2 (by omega)
      have hcell := hc j (by omega)
      have hv := HH.out.2.1 j
      clear hc
      go_enter Try.func18, Try.ntmps18
      go_wp2
      go_ret
      exact ⟨_, rfl, Int.emod_nonneg _ hz, fun _ => Int.emod_lt_of_pos _ (by omega), by (repeat (first | (with_reducible refine Fl.sinDrew ?_) | (with_reducible refine World.Since.drew ?_) | (with_reducible refine Fl.sinSet ?_ ?_; rotate_left) | (with_reducible refine Fl.sinAlloc ?_ ?_; rotate_left) | with_reducible exact World.Since.refl _ _ | with_reducible assumption | (with_reducible refine Fl.sinStep (by with_reducible assumption) ?_))); all_goals (first | omega | (simp; done) | (simp; omega) | (simp [go_sem]; done) | (simp [go_sem]; omega))⟩
    · have hd2 : decide ((j : Int) < (n : Int)) = false := decide_eq_false h2
      go_enter Try.func18, Try.ntmps18
      go_wp2
      go_ret
      exact ⟨_, rfl, Int.emod_nonneg _ hz, fun _ => Int.emod_lt_of_pos _ (by omega), by (repeat (first | (with_reducible refine Fl.sinDrew ?_) | (with_reducible refine World.Since.drew ?_) | (with_reducible refine Fl.sinSet ?_ ?_; rotate_left) | (with_reducible refine Fl.sinAlloc ?_ ?_; rotate_left) | with_reducible exact World.Since.refl _ _ | with_reducible assumption | (with_reducible refine Fl.sinStep (by with_reducible assumption) ?_))); all_goals (first | omega | (simp; done) | (simp; omega) | (simp [go_sem]; done) | (simp [go_sem]; omega))⟩
theorem b10Long_any (A B : Option Addr) (n c m d : Nat) (b : Bool) (w : World) (h : (decide ((1048576 : Int) < n) || decide ((1048576 : Int) < m)) = b) :
    Calls Try.prog 14 #[.slice A n c, .slice B m d] w fun e w' => e = .returned (.bool b) ∧ w.Since w.heap.size w' := by
  subst h
  cases h1 : decide ((1048576 : Int) < n)
  all_goals
    go_enter Try.func14, Try.ntmps14
    go_wp2
    go_ret
    exact ⟨ret_bool (by simp), by (repeat (first | (with_reducible refine Fl.sinDrew ?_) | (with_reducible refine World.Since.drew ?_) | (with_reducible refine Fl.sinSet ?_ ?_; rotate_left) | (with_reducible refine Fl.sinAlloc ?_ ?_; rotate_left) | with_reducible exact World.Since.refl _ _ | with_reducible assumption | (with_reducible refine Fl.sinStep (by with_reducible assumption) ?_))); all_goals (first | omega | (simp; done) | (simp; omega) | (simp [go_sem]; done) | (simp [go_sem]; omega))⟩
theorem r8Long_any (A B : Option Addr) (n c m d : Nat) (b : Bool) (w : World) (h : (decide ((48 : Int) < n) || decide ((48 : Int) < m)) = b) :
    Calls Try.prog 23 #[.slice A n c, .slice B m d] w fun e w' => e = .returned (.bool b) ∧ w.Since w.heap.size w' := by
  subst h
  cases h1 : decide ((48 : Int) < n)
  all_goals
    go_enter Try.func23, Try.ntmps23
    go_wp2
    go_ret
    exact ⟨ret_bool (by simp), by (repeat (first | (with_reducible refine Fl.sinDrew ?_) | (with_reducible refine World.Since.drew ?_) | (with_reducible refine Fl.sinSet ?_ ?_; rotate_left) | (with_reducible refine Fl.sinAlloc ?_ ?_; rotate_left) | with_reducible exact World.Since.refl _ _ | with_reducible assumption | (with_reducible refine Fl.sinStep (by with_reducible assumption) ?_))); all_goals (first | omega | (simp; done) | (simp; omega) | (simp [go_sem]; done) | (simp [go_sem]; omega))⟩
end Go.Proofs.Ytecgipilamefmaa

/- A slice of integers that came in. -/
set_option linter.unusedVariables false
set_option linter.unusedSimpArgs false
namespace Go.Proofs.Ytecgipilamefmaa
namespace Fl
open Go.ChangeShapes Go.WideShapes Go.RowKit Go.WideMaps Go.WideElems
section
variable {H : Type} {enc : TypeId × Value → H} {P : Program}
theorem trod_in {w : World} {base : Nat} {spare : Nat → Bool} {held : Bool} {fuel : Nat} {t : TypeId} {k : IntKind} {cs : List Value} {x : DataW H × List MemPlace} (ht : P.underlying t = some (.int k))
    (h : DataW.trod enc P w base spare held fuel t cs = some x) : ∃ b, cs = [.int k b] ∧ (Lit.int k b).wf = true := by
  cases fuel with
  | zero => simp [DataW.trod] at h
  | succ n =>
    unfold DataW.trod at h
    rw [ht] at h
    split at h <;> simp_all
theorem open_is {W : World} {base b0 : Nat} {r : Reach} {t e : TypeId} {v : Value} {d : DataW H} {ps : List MemPlace} (ht : P.underlying t = some (.slice e)) (he : P.underlying e = some (.int .i64)) (hc : P.cellsOf e = 1)
    (hval : Value.okWide P W r b0 t v) (h : DataW.Trod enc P W base (fun _ => true) true t v d ps) :
    ∃ (A : Option Addr) (n c : Nat) (xs : List Int), v = .slice A n c ∧ (Is W W.heap.size A n xs ∧ ∀ k, k < n → (Lit.int .i64 (wi xs k)).wf = true) ∧ n ≤ 9223372036854775807 := by
  obtain ⟨A, n, c, rfl⟩ := okWide_slice ht hval
  obtain ⟨fuel, hf⟩ := h
  rcases Go.Deep.open_slice ht hf with ⟨hcs, _⟩ | ⟨a, len, cap, m, k, D, Pl, hcs, _, hl, hm, hmm, _, hi⟩
  · simp only [Value.cells, Array.toList] at hcs
    injection hcs with hcs _
    injection hcs with h1 h2 h3
    subst h1; subst h2; subst h3
    exact ⟨none, 0, 0, [], rfl, ⟨⟨rfl, (fun h => by omega)⟩, (fun k h => by omega)⟩, by omega⟩
  · simp only [Value.cells, Array.toList] at hcs
    injection hcs with hcs _
    injection hcs with h1 h2 h3
    subst h1; subst h2; subst h3
    rw [if_pos rfl] at hmm
    subst hmm
    have hcell : ∀ i, i < m → ∃ b : Int, W.cell? (a.add i) = some (.int .i64 b) ∧ (Lit.int .i64 b).wf = true := by
      intro i him
      obtain ⟨cs', hcs', htr⟩ := hi i him
      rw [hc, Nat.mul_one] at hcs'
      obtain ⟨_, hlen, hat⟩ := World.cells?_some hcs'
      obtain ⟨b, hb, hw⟩ := trod_in he htr
      have h0 := hat 0 (by omega)
      rw [hb] at h0
      refine ⟨b, ?_, hw⟩
      have e : (a.add i).add 0 = a.add i := by simp [Addr.add]
      rw [e] at h0
      exact h0
    let f : Nat → Int := fun i => if h : i < m then Classical.choose (hcell i h) else 0
    have hfs : ∀ i (h : i < m), W.cell? (a.add i) = some (.int .i64 (f i)) ∧ (Lit.int .i64 (f i)).wf = true := by
      intro i h
      have := Classical.choose_spec (hcell i h)
      simp only [f, dif_pos h]
      exact this
    refine ⟨some a, n, m, (List.range n).map f, rfl, ⟨⟨by simp, ?_⟩, ?_⟩, by unfold maxLen at hm; omega⟩
    · intro hn
      obtain ⟨g, off, spot⟩ := a
      have h0 := (hfs 0 (by omega)).1
      have hspot : spot = none := by simpa [Addr.add] using World.cell?_spot h0
      subst hspot
      refine ⟨g, off, rfl, ?_, fun k hk => ?_⟩
      · have h1 : W.cell? ⟨g, off, none⟩ = some (.int .i64 (f 0)) := by simpa [Addr.add] using h0
        rcases Nat.lt_or_ge g W.heap.size with h2 | h2
        · exact h2
        · simp [World.cell?, Array.getElem?_eq_none h2] at h1
      · have h1 := (hfs k (by omega)).1
        rw [Go.WideShapes.add_plain] at h1
        rw [h1]
        unfold iv wi
        simp [hk]
    · intro k hk
      have h1 := (hfs k (by omega)).2
      unfold wi
      simpa [hk] using h1
end
end Fl
end Go.Proofs.Ytecgipilamefmaa

/- Draws: lists that a law compares, and the bytes of a law. -/
set_option linter.unusedVariables false
set_option linter.unusedSimpArgs false
namespace Go.Proofs.Ytecgipilamefmaa
open Fl Go.RowKit
namespace Fl
open Go.ChangeShapes Go.WideShapes Go.RowKit Go.WideMaps Go.WideElems
section
variable {H : Type} {enc : TypeId × Value → H} {P : Program}
theorem open_bs {W : World} {base b0 : Nat} {r : Reach} {t e : TypeId} {v : Value} {d : DataW H} {ps : List MemPlace} (ht : P.underlying t = some (.slice e)) (he : P.underlying e = some (.int .u8)) (hc : P.cellsOf e = 1)
    (hval : Value.okWide P W r b0 t v) (h : DataW.Trod enc P W base (fun _ => true) true t v d ps) :
    ∃ (A : Option Addr) (n c : Nat) (xs : List Int), v = .slice A n c ∧ Bs W W.heap.size A n xs ∧ n ≤ 9223372036854775807 := by
  obtain ⟨A, n, c, rfl⟩ := okWide_slice ht hval
  obtain ⟨fuel, hf⟩ := h
  rcases Go.Deep.open_slice ht hf with ⟨hcs, _⟩ | ⟨a, len, cap, m, k, D, Pl, hcs, _, hl, hm, hmm, _, hi⟩
  · simp only [Value.cells, Array.toList] at hcs
    injection hcs with hcs _
    injection hcs with h1 h2 h3
    subst h1; subst h2; subst h3
    exact ⟨none, 0, 0, [], rfl, ⟨rfl, (fun k => by simp [wi]), (fun h => by omega)⟩, by omega⟩
  · simp only [Value.cells, Array.toList] at hcs
    injection hcs with hcs _
    injection hcs with h1 h2 h3
    subst h1; subst h2; subst h3
    rw [if_pos rfl] at hmm
    subst hmm
    have hcell : ∀ i, i < m → ∃ b : Int, W.cell? (a.add i) = some (.int .u8 b) ∧ (Lit.int .u8 b).wf = true := by
      intro i him
      obtain ⟨cs', hcs', htr⟩ := hi i him
      rw [hc, Nat.mul_one] at hcs'
      obtain ⟨_, hlen, hat⟩ := World.cells?_some hcs'
      obtain ⟨b, hb, hw⟩ := trod_in he htr
      have h0 := hat 0 (by omega)
      rw [hb] at h0
      refine ⟨b, ?_, hw⟩
      have e : (a.add i).add 0 = a.add i := by simp [Addr.add]
      rw [e] at h0
      exact h0
    let f : Nat → Int := fun i => if h : i < m then Classical.choose (hcell i h) else 0
    have hfs : ∀ i (h : i < m), W.cell? (a.add i) = some (.int .u8 (f i)) ∧ (Lit.int .u8 (f i)).wf = true := by
      intro i h
      have := Classical.choose_spec (hcell i h)
      simp only [f, dif_pos h]
      exact this
    have hw8 : ∀ i, 0 ≤ f i ∧ f i < 256 := by
      intro i
      by_cases h : i < m
      · have h1 := (hfs i h).2
        simp only [Lit.wf, Bool.and_eq_true, decide_eq_true_eq] at h1
        have e1 : IntKind.min .u8 = 0 := by kernel_rfl
        have e2 : IntKind.max .u8 = 255 := by kernel_rfl
        rw [e1, e2] at h1
        omega
      · simp [f, h]
    refine ⟨some a, n, m, (List.range n).map f, rfl, ⟨by simp, ?_, ?_⟩, by unfold maxLen at hm; omega⟩
    · intro k
      unfold wi
      by_cases hk : k < n
      · simpa [hk] using hw8 k
      · simp [hk]
    · intro hn
      obtain ⟨g, off, spot⟩ := a
      have h0 := (hfs 0 (by omega)).1
      have hspot : spot = none := by simpa [Addr.add] using World.cell?_spot h0
      subst hspot
      refine ⟨g, off, rfl, ?_, fun k hk => ?_⟩
      · have h1 : W.cell? ⟨g, off, none⟩ = some (.int .u8 (f 0)) := by simpa [Addr.add] using h0
        rcases Nat.lt_or_ge g W.heap.size with h2 | h2
        · exact h2
        · simp [World.cell?, Array.getElem?_eq_none h2] at h1
      · have h1 := (hfs k (by omega)).1
        rw [Go.WideShapes.add_plain] at h1
        rw [h1]
        unfold wi
        simp [hk]
end
end Fl
end Go.Proofs.Ytecgipilamefmaa

/- Plain numbers: sevenths and sixteenths, all of them. -/
set_option linter.unusedVariables false
set_option linter.unusedSimpArgs false
namespace Go.Proofs.Ytecgipilamefmaa
open Fl Go.RowKit
def plL : List Nat := [3239201061, 3239051264, 3238901467, 3238751671, 3238601874, 3238452078, 3238302281, 3238152485, 3238002688, 3237703095, 3237403502, 3237103909,
  3236804315, 3236504722, 3236205129, 3235905536, 3235605943, 3235306350, 3235006757, 3234707163, 3234407570, 3234107977, 3233808384, 3233508791,
  3233209198, 3232909605, 3232610011, 3232310418, 3232010825, 3231711232, 3231411639, 3231112046, 3230812453, 3230512859, 3230213266, 3229913673,
  3229614080, 3229014894, 3228415707, 3227816521, 3227217335, 3226618149, 3226018962, 3225419776, 3224820590, 3224221403, 3223622217, 3223023031,
  3222423845, 3221824658, 3221225472, 3220027099, 3218828727, 3217630354, 3216431982, 3215233609, 3214035237, 3212836864, 3210440119, 3208043374,
  3205646629, 3202051511, 3197258021, 3188869413, 0, 1041385765, 1049774373, 1054567863, 1058162981, 1060559726, 1062956471, 1065353216,
  1066551589, 1067749961, 1068948334, 1070146706, 1071345079, 1072543451, 1073741824, 1074341010, 1074940197, 1075539383, 1076138569, 1076737755,
  1077336942, 1077936128, 1078535314, 1079134501, 1079733687, 1080332873, 1080932059, 1081531246, 1082130432, 1082430025, 1082729618, 1083029211,
  1083328805, 1083628398, 1083927991, 1084227584, 1084527177, 1084826770, 1085126363, 1085425957, 1085725550, 1086025143, 1086324736, 1086624329,
  1086923922, 1087223515, 1087523109, 1087822702, 1088122295, 1088421888, 1088721481, 1089021074, 1089320667, 1089620261, 1089919854, 1090219447,
  1090519040, 1090668837, 1090818633, 1090968430, 1091118226, 1091268023, 1091417819, 1091567616, 1091717413, 3229614080, 3229351936, 3229089792,
  3228827648, 3228565504, 3228303360, 3228041216, 3227779072, 3227516928, 3227254784, 3226992640, 3226730496, 3226468352, 3226206208, 3225944064,
  3225681920, 3225419776, 3225157632, 3224895488, 3224633344, 3224371200, 3224109056, 3223846912, 3223584768, 3223322624, 3223060480, 3222798336,
  3222536192, 3222274048, 3222011904, 3221749760, 3221487616, 3221225472, 3220701184, 3220176896, 3219652608, 3219128320, 3218604032, 3218079744,
  3217555456, 3217031168, 3216506880, 3215982592, 3215458304, 3214934016, 3214409728, 3213885440, 3213361152, 3212836864, 3211788288, 3210739712,
  3209691136, 3208642560, 3207593984, 3206545408, 3205496832, 3204448256, 3202351104, 3200253952, 3198156800, 3196059648, 3191865344, 3187671040,
  3179282432, 0, 1031798784, 1040187392, 1044381696, 1048576000, 1050673152, 1052770304, 1054867456, 1056964608, 1058013184, 1059061760,
  1060110336, 1061158912, 1062207488, 1063256064, 1064304640, 1065353216, 1065877504, 1066401792, 1066926080, 1067450368, 1067974656, 1068498944,
  1069023232, 1069547520, 1070071808, 1070596096, 1071120384, 1071644672, 1072168960, 1072693248, 1073217536, 1073741824, 1074003968, 1074266112,
  1074528256, 1074790400, 1075052544, 1075314688, 1075576832, 1075838976, 1076101120, 1076363264, 1076625408, 1076887552, 1077149696, 1077411840,
  1077673984, 1077936128, 1078198272, 1078460416, 1078722560, 1078984704, 1079246848, 1079508992, 1079771136, 1080033280, 1080295424, 1080557568,
  1080819712, 1081081856, 1081344000, 1081606144, 1081868288, 1082130432]
def plW (i : Nat) : Nat := plL.getD i 0
set_option maxRecDepth 100000 in
theorem pl_tab7 : ∀ i : Nat, i < 129 → opO .quo .f32 (some (fI ((i : Int) - 64))) (some 1088421888) = some (plW i) := by decide +kernel
set_option maxRecDepth 100000 in
theorem pl_tab16 : ∀ i : Nat, i < 129 → opO .quo .f32 (some (fI ((i : Int) - 64))) (some 1098907648) = some (plW (129 + i)) := by decide +kernel
set_option maxRecDepth 100000 in
theorem pl_small : ∀ i < 258, plW i < 4294967296 ∧ plW i % 2147483648 ≤ 1091999999 := by decide +kernel
/-- a number that is plain -/
def Pl (X : O) : Prop := ∃ i, i < 258 ∧ X = some (plW i)
theorem pl_fv {i : Nat} (h : i < 258) : Hid (Fv .f32 (plW i) (some (plW i))) := by
  obtain ⟨h1, h2⟩ := pl_small i h
  exact fvc h1 (by omega)
set_option maxHeartbeats 4000000 in
set_option maxRecDepth 100000 in
theorem plainW_any (B b K : Nat) (w : World) (h : Src B b K w) (hK : K ≤ 900000) :
    Calls Try.prog 46 #[.pointer (some ⟨b, 0, none⟩)] w fun e w' => ∃ q Q, e = .returned (.float .f32 q) ∧ Hid (Fv .f32 q Q) ∧ Hid (Pl Q) ∧ Src B b (K + 4) w' ∧ On b w w' := by
  have HH := Lib.hid h; clear h
  go_enter Try.func46, Try.ntmps46
  go_wp2_with fail
  refine (pick_any B b K 129 w HH.out (by omega) (by omega)).mono ?_
  rintro e w1 ⟨v1, rfl, a1, a2, s1, o1⟩
  have a3 := a2 (by omega)
  have S1 := Lib.hid s1; have O1 := Lib.hid o1; clear s1 o1 a2
  go_wp2_with fail
  refine (one_any B b (K + 2) 4 w1 S1.out (by omega) (by omega)).mono ?_
  rintro e w2 ⟨v2, rfl, s2, o2⟩
  have S2 := Lib.hid s2; have O2 := Lib.hid o2; clear s2 o2
  have q1 := fI_fv (v1 - 64)
  have q7 : Hid (Fv .f32 1088421888 (some 1088421888)) := fvc (by decide) (by decide)
  have q16 : Hid (Fv .f32 1098907648 (some 1098907648)) := fvc (by decide) (by decide)
  obtain ⟨i, hi⟩ := Int.eq_ofNat_of_zero_le a1
  have T7 : Hid (Pl (opO .quo .f32 (some (fI (v1 - 64))) (some 1088421888))) := Lib.hid ⟨i, by omega, by rw [hi]; exact pl_tab7 i (by omega)⟩
  have T16 : Hid (Pl (opO .quo .f32 (some (fI (v1 - 64))) (some 1098907648))) := Lib.hid ⟨129 + i, by omega, by rw [hi]; exact pl_tab16 i (by omega)⟩
  clear hi
  cases v2
  all_goals
    go_wp2_with (with_reducible_and_instances refine Lo.wpList_fo _ rfl _ _ _ _ _ rfl _ _ _ _ _ rfl rfl rfl (by assumption) (by assumption) ?_; intro rr nn hrr)
    go_ret
    exact ⟨_, _, rfl, hrr, by assumption, S2.out.drewN _, (O1.out.trans O2.out).drewN _⟩
theorem B10Plain_any (A : Option Addr) (n c : Nat) (xs : List Int) (w : World) (h : Bs w w.heap.size A n xs) (hn : n ≤ 1048576) :
    Calls Try.prog 15 #[.slice A n c] w fun e w' => ∃ q Q, e = .returned (.float .f32 q) ∧ Hid (Fv .f32 q Q) ∧ Hid (Pl Q) ∧ w.Since w.heap.size w' := by
  have HH := Lib.hid h; clear h
  go_enter Try.func15, Try.ntmps15
  go_wp2_with fail
  refine (source_any A n c xs w HH.out hn).mono ?_
  rintro e w1 ⟨rfl, s1, t1⟩
  have S1 := Lib.hid s1; have T1 := Lib.hid t1; clear s1 t1
  go_wp2_with fail
  refine (plainW_any w.heap.size w.heap.size 0 w1 S1.out (by omega)).mono ?_
  rintro e w2 ⟨q, Q, rfl, hq, hp, s2, o2⟩
  have T2 := Lib.hid (T1.out.trans (o2.since (Nat.le_refl _))); clear s2 o2
  go_wp2
  go_ret
  exact ⟨_, _, rfl, hq, hp, T2.out⟩
/-- a row of plain numbers -/
def PlA (lo : Nat) (w : World) (v : Value) (k : Nat) : Prop := (∃ F, Rw lo w v k F ∧ ∀ j, j < k → Pl (F j)) ∧ ∃ g c, v = .slice (some ⟨g, 0, none⟩) k c
theorem PlA.grown {lo : Nat} {w : World} {v : Value} {k : Nat} {F : Nat → O} (h : Rw lo w v (k + 1) F) (hp : ∀ j, j < k + 1 → Pl (F j)) : PlA lo w v (k + 1) := by
  refine ⟨⟨F, h, hp⟩, ?_⟩
  obtain ⟨A, c, xs, rfl, _, hn, hs, _⟩ := h.fin
  cases A with
  | none => exact absurd (hn rfl).1 (by omega)
  | some a =>
    obtain ⟨g, rfl, _⟩ := hs a rfl
    exact ⟨g, c, rfl⟩
theorem PlA.end_ {lo : Nat} {w : World} {v : Value} {k : Nat} (h : PlA lo w v k) : ∃ g c xs, v = .slice (some ⟨g, 0, none⟩) k c ∧ k ≤ c ∧ Gs 22 w lo (some ⟨g, 0, none⟩) k xs ∧ ∀ j, j < k → Pl (ab .f32 (wd xs j)) := by
  obtain ⟨⟨F, hF, hp⟩, g, c, rfl⟩ := h
  obtain ⟨A, c', xs, e, hc, _, _, hg, hf⟩ := hF.fin
  injection e with e1 e2 e3
  subst e1; subst e3
  exact ⟨g, c, xs, rfl, hc, hg, fun j hj => by rw [hf j hj]; exact hp j hj⟩
theorem PlA.pick {lo : Nat} {w : World} {v : Value} {k : Nat} {Q : O} (h : PlA lo w v k) (hq : Pl Q) : ∃ F, Rw lo w v k F ∧ F k = Q ∧ ∀ j, j < k + 1 → Pl (F j) := by
  obtain ⟨⟨F, hF, hp⟩, _⟩ := h
  exact ⟨fun j => if j = k then Q else F j, hF.like fun j hj => by simp [show j ≠ k by omega], by simp, fun j hj => by
    by_cases e : j = k
    · simp only [e, if_true]; exact hq
    · simp only [e, if_false]; exact hp j (by omega)⟩
theorem PlA.on {lo g : Nat} {w w' : World} {v : Value} {k : Nat} (h : PlA lo w v k) (o : On g w w') (hg : g < lo) : PlA lo w' v k := by
  obtain ⟨⟨F, hF, hp⟩, hv⟩ := h
  exact ⟨⟨F, hF.on o hg, hp⟩, hv⟩
/-- plain numbers that a call has drawn: a list in memory of its own -/
def PPl (n : Nat) (w : World) (e : Ending) (w' : World) : Prop := ∃ (g c : Nat) (xs : List Nat), e = .returned (.slice (some ⟨g, 0, none⟩) n c) ∧ n ≤ c ∧ Gs 22 w' w.heap.size (some ⟨g, 0, none⟩) n xs ∧ Hid (∀ j, j < n → Pl (ab .f32 (wd xs j))) ∧ w.Since w.heap.size w'
end Go.Proofs.Ytecgipilamefmaa

/- Differences grow with what is taken from; phases stay from 0 to less than 1. -/
set_option linter.unusedVariables false
set_option linter.unusedSimpArgs false
namespace Go.Proofs.Ytecgipilamefmaa
namespace Fl
open Ieee
theorem sub_mono (k : FloatKind) {x y c : Nat} (hx : Fin k x) (hy : Fin k y) (hc : Fin k c) (sx : sgn k x = false) (sy : sgn k y = false) (sc : sgn k c = false) (h1 : rung k y ≤ rung k x) (h2 : rung k x ≤ rung k c) :
    ∃ r t, floatBits .sub k x y = some r ∧ floatBits .sub k c y = some t ∧ rung k r ≤ rung k t ∧ sgn k r = false := by
  obtain ⟨m, e, hm, hz⟩ := read_fin k hx
  obtain ⟨n, f, hn, hz2⟩ := read_fin k hy
  obtain ⟨M, E, hM, hZ⟩ := read_fin k hc
  rw [sx] at hm
  rw [sy] at hn
  rw [sc] at hM
  have sgd : ∀ (s : Bool) (a u : Nat), signed s a u = sg s (a * 2 ^ u) := by intro s a u; simp only [signed, sg, Nat.shiftLeft_eq]
  simp only [floatBits, Format.sub, hm, hn, hM, Datum.opposite, Datum.sum, Option.map_some, Bool.not_false]
  have e1 : (min (k.format.leastPlace + (e : Int)) (k.format.leastPlace + (f : Int)) - k.format.leastPlace).toNat = min e f := by omega
  have e2 : (min (k.format.leastPlace + (E : Int)) (k.format.leastPlace + (f : Int)) - k.format.leastPlace).toNat = min E f := by omega
  have e3 : (k.format.leastPlace + (e : Int) - min (k.format.leastPlace + (e : Int)) (k.format.leastPlace + (f : Int))).toNat = e - min e f := by omega
  have e4 : (k.format.leastPlace + (f : Int) - min (k.format.leastPlace + (e : Int)) (k.format.leastPlace + (f : Int))).toNat = f - min e f := by omega
  have e5 : (k.format.leastPlace + (E : Int) - min (k.format.leastPlace + (E : Int)) (k.format.leastPlace + (f : Int))).toNat = E - min E f := by omega
  have e6 : (k.format.leastPlace + (f : Int) - min (k.format.leastPlace + (E : Int)) (k.format.leastPlace + (f : Int))).toNat = f - min E f := by omega
  rw [e3, e4, e5, e6, sgd, sgd, sgd, sgd]
  have c1 := (zv_le k).2 h1
  have c2 := (zv_le k).2 h2
  have p1 : m * 2 ^ (e - min e f) * 2 ^ min e f = zv k (rung k x) := by rw [Nat.mul_assoc, ← Nat.pow_add, Nat.sub_add_cancel (Nat.min_le_left ..), hz]
  have p2 : n * 2 ^ (f - min e f) * 2 ^ min e f = zv k (rung k y) := by rw [Nat.mul_assoc, ← Nat.pow_add, Nat.sub_add_cancel (Nat.min_le_right ..), hz2]
  have p3 : M * 2 ^ (E - min E f) * 2 ^ min E f = zv k (rung k c) := by rw [Nat.mul_assoc, ← Nat.pow_add, Nat.sub_add_cancel (Nat.min_le_left ..), hZ]
  have p4 : n * 2 ^ (f - min E f) * 2 ^ min E f = zv k (rung k y) := by rw [Nat.mul_assoc, ← Nat.pow_add, Nat.sub_add_cancel (Nat.min_le_right ..), hz2]
  generalize hA : m * 2 ^ (e - min e f) = A at *
  generalize hB : n * 2 ^ (f - min e f) = B at *
  generalize hC : M * 2 ^ (E - min E f) = C at *
  generalize hD : n * 2 ^ (f - min E f) = D at *
  have q1 : B ≤ A := by
    have hp : 0 < 2 ^ min e f := Nat.two_pow_pos _
    exact Nat.le_of_mul_le_mul_right (by rw [p1, p2]; exact c1) hp
  have q2 : D ≤ C := by
    have hp : 0 < 2 ^ min E f := Nat.two_pow_pos _
    exact Nat.le_of_mul_le_mul_right (by rw [p3, p4]; omega) hp
  have t1 : sg false A + sg true B = ((A - B : Nat) : Int) := by simp only [sg]; simp; omega
  have t2 : sg false C + sg true D = ((C - D : Nat) : Int) := by simp only [sg]; simp; omega
  rw [t1, t2]
  refine ⟨_, _, rfl, rfl, ?_, ?_⟩
  · refine nearest_mono k _ _ (b := k.format.leastPlace) (by omega) (by omega) (by omega) ?_
    rw [e1, e2, Int.natAbs_natCast, Int.natAbs_natCast, Nat.sub_mul, Nat.sub_mul, p1, p2, p3, p4]
    omega
  · refine (sgn_nearest k _ _ _).trans ?_
    split
    · rfl
    · exact decide_eq_false (by omega)
end Fl
open Fl Go.RowKit Ieee
def onO (P S : O) : O := if geO (ad P S) (some 1065353216) then su (ad P S) (some 1065353216) else ad P S
theorem add_comm_fin (k : FloatKind) {x y : Nat} (hx : Fin k x) (hy : Fin k y) : floatBits .add k x y = floatBits .add k y x := by
  obtain ⟨m, e, hm, _⟩ := read_fin k hx
  obtain ⟨n, f, hn, _⟩ := read_fin k hy
  simp only [floatBits, Format.add, hm, hn, Datum.sum, Option.map_some]
  rw [Int.add_comm, Int.min_comm, Bool.and_comm]
/-- a number that is no -0 but from 0 to less than 1, or -0 -/
def Ph (b : Nat) : Prop := b < 1065353216 ∨ b = 2147483648
theorem Ph.rung {b : Nat} (h : Ph b) : rung .f32 b ≤ 1065353215 ∧ (sgn .f32 b = false ∨ b = 2147483648) := by
  unfold Fl.rung Fl.sgn
  rw [sw32]
  rcases h with h | rfl
  · exact ⟨by omega, .inl (by simp; omega)⟩
  · exact ⟨by decide, .inr rfl⟩
theorem turn_ph {b : Nat} {X : O} (hb : Hid (Fv .f32 b X)) (h : turnB X = true) : X = some b ∧ Ph b := by
  obtain ⟨h1, h2⟩ := turn_small hb.out h
  refine ⟨h1, ?_⟩
  subst h1
  have hlt := hb.out.1
  rw [w32] at hlt
  have r1 : rung .f32 1065353216 = 1065353216 := by decide
  rw [r1] at h2
  have hr : rung .f32 b = b % 2147483648 := by unfold Fl.rung; rw [sw32]
  rw [hr] at h2
  by_cases hs : b < 2147483648
  · exact .inl (by omega)
  · refine .inr ?_
    have hg : geO (some b) (some 0) = true := by unfold turnB at h; rw [Bool.and_eq_true] at h; exact h.1
    have hk := order_key .f32 hb.out.2 (show ab .f32 0 = some 0 by decide)
    have h3 : (FloatKind.f32.format.order b 0 == some .gt || FloatKind.f32.format.order b 0 == some .eq) = true := hg
    rw [hk] at h3
    have k0 : key .f32 0 = 0 := by decide
    have hkb : key .f32 b = -((b % 2147483648 : Nat) : Int) := by
      unfold Fl.key sg Fl.sgn
      rw [hr, sw32, if_pos (by simp; omega)]
    rw [k0, hkb] at h3
    simp only [Bool.or_eq_true, beq_iff_eq, Option.some.injEq] at h3
    rcases h3 with h3 | h3
    · have := Int.compare_eq_gt.1 h3; omega
    · have := Int.compare_eq_eq.1 h3; omega
theorem ph_turn {b : Nat} (h : Ph b) : turnB (some b) = true := by
  have hab : ab .f32 b = some b := by rw [ab32, if_neg (by rcases h with h | rfl <;> omega)]
  have h1 : ab .f32 1065353216 = some 1065353216 := by decide
  have h0 : ab .f32 0 = some 0 := by decide
  have k0 : key .f32 0 = 0 := by decide
  have k1 : key .f32 1065353216 = 1065353216 := by decide
  have hkb : 0 ≤ key .f32 b ∧ key .f32 b < 1065353216 := by
    rcases h with h | rfl
    · have : key .f32 b = (b : Int) := by
        unfold Fl.key sg Fl.sgn Fl.rung
        rw [sw32, if_neg (by simp; omega), Nat.mod_eq_of_lt (by omega)]
      omega
    · decide
  unfold turnB
  rw [Bool.and_eq_true]
  constructor
  · show (FloatKind.f32.format.order b 0 == some .gt || FloatKind.f32.format.order b 0 == some .eq) = true
    rw [order_key .f32 hab h0, k0]
    rcases Int.lt_or_eq_of_le hkb.1 with h | h
    · rw [Int.compare_eq_gt.2 h]; rfl
    · rw [Int.compare_eq_eq.2 h.symm]; rfl
  · show (FloatKind.f32.format.order b 1065353216 == some .lt) = true
    rw [order_key .f32 hab h1, k1, Int.compare_eq_lt.2 hkb.2]; rfl
theorem ph_add {p s : Nat} (hp : Ph p) (hs : Ph s) : ∃ a, floatBits .add .f32 p s = some a ∧ rung .f32 a ≤ 1073741823 ∧ (sgn .f32 a = false ∨ a = 2147483648) := by
  obtain ⟨r1, g1⟩ := hp.rung
  obtain ⟨r2, g2⟩ := hs.rung
  have inf : FloatKind.f32.format.infRung = 2139095040 := by decide
  have fp : Fl.Fin .f32 p := by unfold Fl.Fin; omega
  have fs : Fl.Fin .f32 s := by unfold Fl.Fin; omega
  have fc : Fl.Fin .f32 1065353215 := by unfold Fl.Fin; decide
  have rc : rung .f32 1065353215 = 1065353215 := by decide
  obtain ⟨a, t, h1, h2, h3⟩ := add_size .f32 fp fs fc fc (by decide) (by decide) (by rw [rc]; exact r1) (by rw [rc]; exact r2)
  have e1 : floatBits .add .f32 1065353215 1065353215 = some 1073741823 := by decide +kernel
  rw [e1] at h2; cases h2
  have rt : rung .f32 1073741823 = 1073741823 := by decide
  rw [rt] at h3
  refine ⟨a, h1, h3, ?_⟩
  rcases g2 with g2 | rfl
  · obtain ⟨b, q1, q2⟩ := add_sign .f32 fp fs g2 (by
      rcases g1 with g1 | rfl
      · exact .inl g1
      · exact .inr (by rw [show rung .f32 2147483648 = 0 by decide]; omega))
    rw [h1] at q1; cases q1
    exact .inl q2
  · rcases g1 with g1 | rfl
    · obtain ⟨b, q1, q2⟩ := add_sign .f32 fs fp g1 (.inr (by rw [show rung .f32 2147483648 = 0 by decide]; omega))
      rw [add_comm_fin .f32 fp fs] at h1
      rw [h1] at q1; cases q1
      exact .inl q2
    · have e2 : floatBits .add .f32 2147483648 2147483648 = some 2147483648 := by decide +kernel
      rw [h1] at e2; cases e2
      exact .inr rfl
theorem on_ph {p s : Nat} (hp : Ph p) (hs : Ph s) : ∃ b, onO (some p) (some s) = some b ∧ Ph b ∧ turnB (onO (some p) (some s)) = true := by
  obtain ⟨a, h1, h3, h4⟩ := ph_add hp hs
  have ha : ad (some p) (some s) = some a := h1
  have inf : FloatKind.f32.format.infRung = 2139095040 := by decide
  have hr : rung .f32 a = a % 2147483648 := by unfold Fl.rung; rw [sw32]
  have hfv : Fv .f32 a (some a) := fv_op (.inl rfl) h1
  have hlt := hfv.1
  rw [w32] at hlt
  have h1' : ab .f32 1065353216 = some 1065353216 := by decide
  have k1 : key .f32 1065353216 = 1065353216 := by decide
  unfold onO
  rw [ha]
  by_cases hg : geO (some a) (some 1065353216) = true
  · rw [if_pos hg]
    have h5 : (FloatKind.f32.format.order a 1065353216 == some .gt || FloatKind.f32.format.order a 1065353216 == some .eq) = true := hg
    rw [order_key .f32 hfv.2 h1', k1] at h5
    simp only [Bool.or_eq_true, beq_iff_eq, Option.some.injEq] at h5
    have h6 : 1065353216 ≤ key .f32 a := by
      rcases h5 with h | h
      · have := Int.compare_eq_gt.1 h; omega
      · have := Int.compare_eq_eq.1 h; omega
    rcases h4 with h4 | rfl
    · have h7 : 1065353216 ≤ rung .f32 a := by unfold Fl.key sg at h6; rw [h4] at h6; simp at h6; omega
      have fa : Fl.Fin .f32 a := by unfold Fl.Fin; omega
      obtain ⟨r, t, q1, q2, q3, q4⟩ := sub_mono .f32 fa (y := 1065353216) (c := 1073741823) (by unfold Fl.Fin; decide) (by unfold Fl.Fin; decide) h4 (by decide) (by decide) (by rw [show rung .f32 1065353216 = 1065353216 by decide]; exact h7) (by rw [show rung .f32 1073741823 = 1073741823 by decide]; exact h3)
      have e2 : floatBits .sub .f32 1073741823 1065353216 = some 1065353214 := by decide +kernel
      rw [e2] at q2; cases q2
      have fr : Fv .f32 r (some r) := fv_op (.inr (.inl rfl)) q1
      have hrl := fr.1
      rw [w32] at hrl
      have hrr : rung .f32 r = r % 2147483648 := by unfold Fl.rung; rw [sw32]
      have r9 : rung .f32 1065353214 = 1065353214 := by decide
      have hph : Ph r := by
        refine .inl ?_
        unfold Fl.sgn at q4
        rw [sw32] at q4
        have : r / 2147483648 % 2 ≠ 1 := by simpa using q4
        omega
      have hs : su (some a) (some 1065353216) = some r := q1
      exact ⟨r, hs, hph, by rw [hs]; exact ph_turn hph⟩
    · exact absurd h6 (by decide)
  · rw [if_neg hg]
    have hph : Ph a := by
      rcases h4 with h4 | rfl
      · refine .inl ?_
        have h5 : ¬ (FloatKind.f32.format.order a 1065353216 == some .gt || FloatKind.f32.format.order a 1065353216 == some .eq) = true := hg
        rw [order_key .f32 hfv.2 h1', k1] at h5
        have h6 : key .f32 a < 1065353216 := by
          rcases Int.lt_trichotomy (key .f32 a) 1065353216 with h | h | h
          · exact h
          · rw [Int.compare_eq_eq.2 h] at h5; exact absurd rfl h5
          · rw [Int.compare_eq_gt.2 h] at h5; exact absurd rfl h5
        unfold Fl.key sg at h6
        rw [h4] at h6
        unfold Fl.sgn at h4
        rw [sw32] at h4
        have : a / 2147483648 % 2 ≠ 1 := by simpa using h4
        simp at h6
        omega
      · exact .inr rfl
    exact ⟨a, rfl, hph, ph_turn hph⟩
end Go.Proofs.Ytecgipilamefmaa

/- Quotients of products that are nearly whole; the gap of two numbers. -/
set_option linter.unusedVariables false
set_option linter.unusedSimpArgs false
namespace Go.Proofs.Ytecgipilamefmaa
namespace Fl
open Ieee
theorem sub_mono2 (k : FloatKind) {x y c : Nat} (hx : Fin k x) (hy : Fin k y) (hc : Fin k c) (sx : sgn k x = false) (sy : sgn k y = false) (sc : sgn k c = false) (h1 : rung k y ≤ rung k x) (h2 : rung k c ≤ rung k y) :
    ∃ r t, floatBits .sub k x y = some r ∧ floatBits .sub k x c = some t ∧ rung k r ≤ rung k t ∧ sgn k r = false := by
  obtain ⟨m, e, hm, hz⟩ := read_fin k hx
  obtain ⟨n, f, hn, hz2⟩ := read_fin k hy
  obtain ⟨M, E, hM, hZ⟩ := read_fin k hc
  rw [sx] at hm
  rw [sy] at hn
  rw [sc] at hM
  have sgd : ∀ (s : Bool) (a u : Nat), signed s a u = sg s (a * 2 ^ u) := by intro s a u; simp only [signed, sg, Nat.shiftLeft_eq]
  simp only [floatBits, Format.sub, hm, hn, hM, Datum.opposite, Datum.sum, Option.map_some, Bool.not_false]
  have e1 : (min (k.format.leastPlace + (e : Int)) (k.format.leastPlace + (f : Int)) - k.format.leastPlace).toNat = min e f := by omega
  have e2 : (min (k.format.leastPlace + (e : Int)) (k.format.leastPlace + (E : Int)) - k.format.leastPlace).toNat = min e E := by omega
  have e3 : (k.format.leastPlace + (e : Int) - min (k.format.leastPlace + (e : Int)) (k.format.leastPlace + (f : Int))).toNat = e - min e f := by omega
  have e4 : (k.format.leastPlace + (f : Int) - min (k.format.leastPlace + (e : Int)) (k.format.leastPlace + (f : Int))).toNat = f - min e f := by omega
  have e5 : (k.format.leastPlace + (e : Int) - min (k.format.leastPlace + (e : Int)) (k.format.leastPlace + (E : Int))).toNat = e - min e E := by omega
  have e6 : (k.format.leastPlace + (E : Int) - min (k.format.leastPlace + (e : Int)) (k.format.leastPlace + (E : Int))).toNat = E - min e E := by omega
  rw [e3, e4, e5, e6, sgd, sgd, sgd, sgd]
  have c1 := (zv_le k).2 h1
  have c2 := (zv_le k).2 h2
  have p1 : m * 2 ^ (e - min e f) * 2 ^ min e f = zv k (rung k x) := by rw [Nat.mul_assoc, ← Nat.pow_add, Nat.sub_add_cancel (Nat.min_le_left ..), hz]
  have p2 : n * 2 ^ (f - min e f) * 2 ^ min e f = zv k (rung k y) := by rw [Nat.mul_assoc, ← Nat.pow_add, Nat.sub_add_cancel (Nat.min_le_right ..), hz2]
  have p3 : m * 2 ^ (e - min e E) * 2 ^ min e E = zv k (rung k x) := by rw [Nat.mul_assoc, ← Nat.pow_add, Nat.sub_add_cancel (Nat.min_le_left ..), hz]
  have p4 : M * 2 ^ (E - min e E) * 2 ^ min e E = zv k (rung k c) := by rw [Nat.mul_assoc, ← Nat.pow_add, Nat.sub_add_cancel (Nat.min_le_right ..), hZ]
  generalize hA : m * 2 ^ (e - min e f) = A at *
  generalize hB : n * 2 ^ (f - min e f) = B at *
  generalize hC : m * 2 ^ (e - min e E) = C at *
  generalize hD : M * 2 ^ (E - min e E) = D at *
  have q1 : B ≤ A := by
    have hp : 0 < 2 ^ min e f := Nat.two_pow_pos _
    exact Nat.le_of_mul_le_mul_right (by rw [p1, p2]; exact c1) hp
  have q2 : D ≤ C := by
    have hp : 0 < 2 ^ min e E := Nat.two_pow_pos _
    exact Nat.le_of_mul_le_mul_right (by rw [p3, p4]; omega) hp
  have t1 : sg false A + sg true B = ((A - B : Nat) : Int) := by simp only [sg]; simp; omega
  have t2 : sg false C + sg true D = ((C - D : Nat) : Int) := by simp only [sg]; simp; omega
  rw [t1, t2]
  refine ⟨_, _, rfl, rfl, ?_, ?_⟩
  · refine nearest_mono k _ _ (b := k.format.leastPlace) (by omega) (by omega) (by omega) ?_
    rw [e1, e2, Int.natAbs_natCast, Int.natAbs_natCast, Nat.sub_mul, Nat.sub_mul, p1, p2, p3, p4]
    omega
  · refine (sgn_nearest k _ _ _).trans ?_
    split
    · rfl
    · exact decide_eq_false (by omega)
end Fl
open Fl Go.RowKit Ieee
def cLo : Nat := 4607182410210082816
def cHi : Nat := 4607182423094984704
def cTol5 : Nat := 4532020583610935537
def cTol4 : Nat := 4547007122018943789
def gapO (X Y : O) : O := if lt64 X Y then opO .sub .f64 Y X else opO .sub .f64 X Y
theorem gap_any (x y : Nat) (X Y : O) (w : World) (hx : Hid (Fv .f64 x X)) (hy : Hid (Fv .f64 y Y)) :
    Calls Try.prog 17 #[.float .f64 x, .float .f64 y] w (RetF .f64 (gapO X Y) w) := by
  have h := lt64_fv hx hy
  unfold gapO
  cases e : lt64 X Y <;> rw [e] at h
  · rw [if_neg (by decide)]
    go_enter Try.func17, Try.ntmps17
    go_wp2_with (with_reducible_and_instances refine Lo.wpList_fo _ rfl _ _ _ _ _ rfl _ _ _ _ _ rfl rfl rfl (by assumption) (by assumption) ?_; intro rr nn hrr)
    go_ret
    exact ⟨_, _, rfl, hrr.out, rfl⟩
  · rw [if_pos rfl]
    go_enter Try.func17, Try.ntmps17
    go_wp2_with (with_reducible_and_instances refine Lo.wpList_fo _ rfl _ _ _ _ _ rfl _ _ _ _ _ rfl rfl rfl (by assumption) (by assumption) ?_; intro rr nn hrr)
    go_ret
    exact ⟨_, _, rfl, hrr.out, rfl⟩
theorem lo_hi (D : Nat) (hD : D = 1021) : zv .f64 (rung .f64 cLo) = (2 ^ 20 - 1) * 2 ^ 33 * 2 ^ D ∧ zv .f64 (rung .f64 cHi) = (2 ^ 20 + 1) * 2 ^ 33 * 2 ^ D ∧ rung .f64 cLo = cLo ∧ rung .f64 cHi = cHi ∧ (floatBits .sub .f64 cHi cOne).map (fun r => decide (rung .f64 r ≤ cTol5)) = some true ∧ (floatBits .sub .f64 cOne cLo).map (fun r => decide (rung .f64 r ≤ cTol5)) = some true ∧ rung .f64 cOne = cOne ∧ sgn .f64 cOne = false ∧ sgn .f64 cLo = false ∧ sgn .f64 cHi = false ∧ cLo < cOne ∧ cOne < cHi ∧ cHi < FloatKind.f64.format.infRung := by
  subst hD
  decide +kernel
/-- where a quotient of a product is nearly 1 -/
theorem ratio_gap {x y s : Nat} (hx : rung .f32 x < FloatKind.f32.format.infRung) (hy : rung .f32 y < FloatKind.f32.format.infRung) (hs : rung .f32 s < FloatKind.f32.format.infRung) (hs0 : rung .f32 s ≠ 0) (sx : sgn .f32 x = false) (sy : sgn .f32 y = false) (ss : sgn .f32 s = false)
    (h1 : (2 ^ 20 - 1) * 2 ^ 129 * zv .f32 (rung .f32 s) ≤ zv .f32 (rung .f32 x) * zv .f32 (rung .f32 y)) (h2 : zv .f32 (rung .f32 x) * zv .f32 (rung .f32 y) ≤ (2 ^ 20 + 1) * 2 ^ 129 * zv .f32 (rung .f32 s)) :
    gt64 (gapO (opO .quo .f64 (opO .mul .f64 (wide (some x)) (wide (some y))) (wide (some s))) (some cOne)) (some cTol5) = false := by
  obtain ⟨D, hD⟩ : ∃ D, D = 925 := ⟨_, rfl⟩
  obtain ⟨T, hT⟩ : ∃ T, T = 1021 := ⟨_, rfl⟩
  obtain ⟨Q, hQ⟩ : ∃ Q, Q = 1074 := ⟨_, rfl⟩
  have X := wide_zv hx D hD
  have Y := wide_zv hy D hD
  have S := wide_zv hs D hD
  obtain ⟨l1, l2, l3, l4, l5, l6, l7, l8, l9, l10, l11, l12, l13⟩ := lo_hi T hT
  have fin : ∀ {b : Nat}, rung .f32 b < FloatKind.f32.format.infRung → Fl.Fin .f64 (FloatKind.f64.encode (FloatKind.f32.decode b)) := by
    intro b hb
    obtain ⟨E, hE⟩ : ∃ E, E = 925 := ⟨_, rfl⟩
    have h := (wide_zv hb E hE).2
    refine (zv_lt .f64).1 ?_
    rw [h]
    exact Nat.lt_of_lt_of_le (Nat.mul_lt_mul_of_pos_right (zv_mono .f32 hb) (Nat.two_pow_pos _)) (by subst hE; decide +kernel)
  have fX := fin hx; have fY := fin hy; have fS := fin hs
  show gt64 (gapO (opO .quo .f64 (floatBits .mul .f64 (FloatKind.f64.encode (FloatKind.f32.decode x)) (FloatKind.f64.encode (FloatKind.f32.decode y))) (some (FloatKind.f64.encode (FloatKind.f32.decode s)))) (some cOne)) (some cTol5) = false
  generalize FloatKind.f64.encode (FloatKind.f32.decode x) = u at *
  generalize FloatKind.f64.encode (FloatKind.f32.decode y) = v at *
  generalize FloatKind.f64.encode (FloatKind.f32.decode s) = t at *
  obtain ⟨mx, ex, hzx, fx, hmx⟩ := rung_form .f32 (rung .f32 x)
  obtain ⟨my, ey, hzy, fy, hmy⟩ := rung_form .f32 (rung .f32 y)
  have hb32 : FloatKind.f32.format.binade = 8388608 := by decide
  have hi32 : FloatKind.f32.format.infRung = 2139095040 := by decide
  have hb64 : FloatKind.f64.format.binade = 4503599627370496 := by decide
  have hi64 : FloatKind.f64.format.infRung = 9218868437227405312 := by decide
  have hex : ex ≤ 254 := by
    rcases fx with ⟨_, _, rfl⟩ | ⟨_, _, rfl⟩
    · omega
    · rw [hb32]; omega
  have hey : ey ≤ 254 := by
    rcases fy with ⟨_, _, rfl⟩ | ⟨_, _, rfl⟩
    · omega
    · rw [hb32]; omega
  obtain ⟨H, hH⟩ : ∃ H, H = 776 := ⟨_, rfl⟩
  have hmm : mx * my < 2 ^ (FloatKind.f64.format.fractionBits + 1) := by
    have a1 : mx < 16777216 := hmx
    have a2 : my < 16777216 := hmy
    show mx * my < 9007199254740992
    exact Nat.lt_of_le_of_lt (Nat.mul_le_mul (Nat.le_of_lt_succ (Nat.lt_succ_of_lt a1)) (Nat.le_of_lt a2)) (by decide)
  obtain ⟨r, hr, hzr⟩ := rep .f64 (m := mx * my) (e := ex + ey + H) hmm (by rw [hb64, hi64]; omega)
  have hP : (Q : Int) = -FloatKind.f64.format.leastPlace := by rw [hQ]; decide
  have e1 : 2 ^ D * 2 ^ D = 2 ^ H * 2 ^ Q := by rw [← Nat.pow_add, ← Nat.pow_add, show D + D = H + Q by omega]
  obtain ⟨P, hPm, fP, hPs⟩ := mul_exact .f64 (x := u) (y := v) (r := r) fX fY hr Q hP (by
    rw [Int.natAbs_mul, sv_abs, sv_abs, X.2, Y.2, hzr, hzx, hzy, Nat.pow_add, Nat.pow_add]
    have : mx * 2 ^ ex * 2 ^ D * (my * 2 ^ ey * 2 ^ D) = mx * my * (2 ^ ex * 2 ^ ey) * (2 ^ D * 2 ^ D) := by ac_rfl
    rw [this, e1]; ac_rfl)
  have hzP : zv .f64 (rung .f64 P) * 2 ^ Q = zv .f32 (rung .f32 x) * zv .f32 (rung .f32 y) * (2 ^ D * 2 ^ D) := by
    have a := congrArg Int.natAbs hPs
    rw [Int.natAbs_mul, Int.natAbs_mul, sv_abs, sv_abs, sv_abs, Int.natAbs_natCast, X.2, Y.2] at a
    rw [a]; ac_rfl
  have e2 : 2 ^ 129 * 2 ^ D = 2 ^ 33 * 2 ^ T := by rw [← Nat.pow_add, ← Nat.pow_add, show 129 + D = 33 + T by omega]
  have hs64 : rung .f64 t ≠ 0 := by
    intro h0
    have a := S.2
    rw [h0, zv_zero] at a
    have b : 0 < zv .f32 (rung .f32 s) := by have := zv_mono .f32 (r := 0) (s := rung .f32 s) (by omega); omega
    have c := Nat.mul_pos b (Nat.two_pow_pos D)
    omega
  obtain ⟨q, hq, hqh⟩ := div_size .f64 (x := P) (y := t) (t := cHi) fP fS (by unfold Fl.Fin; omega) hs64 Q hP (by
    rw [hzP, l2, S.2]
    have a := Nat.mul_le_mul_right (2 ^ D * 2 ^ D) h2
    refine Nat.le_trans a (Nat.le_of_eq ?_)
    have b : (2 ^ 20 + 1) * 2 ^ 129 * zv .f32 (rung .f32 s) * (2 ^ D * 2 ^ D) = (2 ^ 20 + 1) * (2 ^ 129 * 2 ^ D) * (zv .f32 (rung .f32 s) * 2 ^ D) := by ac_rfl
    rw [b, e2]; ac_rfl)
  obtain ⟨q', hq', hql⟩ := div_low .f64 (x := P) (y := t) (t := cLo) fP fS (by unfold Fl.Fin; omega) hs64 Q hP (by
    rw [hzP, l1, S.2]
    have a := Nat.mul_le_mul_right (2 ^ D * 2 ^ D) h1
    refine Nat.le_trans (Nat.le_of_eq ?_) a
    have b : (2 ^ 20 - 1) * 2 ^ 129 * zv .f32 (rung .f32 s) * (2 ^ D * 2 ^ D) = (2 ^ 20 - 1) * (2 ^ 129 * 2 ^ D) * (zv .f32 (rung .f32 s) * 2 ^ D) := by ac_rfl
    rw [b, e2]; ac_rfl)
  have g1 := Option.some.inj (hq.symm.trans hq'); rw [← g1] at hql
  obtain ⟨P', hP', sP⟩ := mul_sign .f64 fX fY
  have g2 := Option.some.inj (hPm.symm.trans hP'); rw [← g2, X.1, Y.1, sx, sy] at sP
  obtain ⟨q2, hq2, sq⟩ := div_sign .f64 fP fS hs64
  have g3 := Option.some.inj (hq.symm.trans hq2); rw [← g3, sP, S.1, ss] at sq
  have hqw := pos_word (fv_op (.inr (.inr (.inr rfl))) hq).1 sq
  have fq : Fl.Fin .f64 q := by unfold Fl.Fin; omega
  have f1 : Fl.Fin .f64 cOne := by unfold Fl.Fin; omega
  have em : opO .quo .f64 (floatBits .mul .f64 u v) (some t) = some q := by rw [hPm]; exact hq
  rw [em]
  have fin2 : ∀ g, sgn .f64 g = false → g < 2 ^ FloatKind.f64.format.width → rung .f64 g ≤ cTol5 → gt64 (some g) (some cTol5) = false := by
    intro g sg hg hle
    have hgw := pos_word hg sg
    have ct : cTol5 = 4532020583610935537 := rfl
    show (FloatKind.f64.format.order g cTol5 == some .gt) = false
    rw [ord_posW (by omega) (by rw [ct]; omega), cmp_def]
    split
    · rfl
    · split
      · rfl
      · omega
  unfold gapO
  by_cases hlt : q < cOne
  · have e : lt64 (some q) (some cOne) = true := by
      show (FloatKind.f64.format.order q cOne == some .lt) = true
      rw [lt_posW (by omega) (by omega)]; exact decide_eq_true hlt
    rw [if_pos e]
    obtain ⟨a, b, ha, hb, hab, sa⟩ := sub_mono2 .f64 (x := cOne) (y := q) (c := cLo) f1 fq (by unfold Fl.Fin; omega) l8 sq l9 (by omega) hql
    show gt64 (floatBits .sub .f64 cOne q) _ = false
    rw [ha]
    rw [hb] at l6
    exact fin2 a sa (fv_op (.inr (.inl rfl)) ha).1 (Nat.le_trans hab (of_decide_eq_true (Option.some.inj l6)))
  · have e : lt64 (some q) (some cOne) = false := by
      show (FloatKind.f64.format.order q cOne == some .lt) = false
      rw [lt_posW (by omega) (by omega)]; exact decide_eq_false hlt
    rw [if_neg (by rw [e]; decide)]
    obtain ⟨a, b, ha, hb, hab, sa⟩ := sub_mono .f64 (x := q) (y := cOne) (c := cHi) fq f1 (by unfold Fl.Fin; omega) sq l8 l10 (by omega) hqh
    show gt64 (floatBits .sub .f64 q cOne) _ = false
    rw [ha]
    rw [hb] at l5
    exact fin2 a sa (fv_op (.inr (.inl rfl)) ha).1 (Nat.le_trans hab (of_decide_eq_true (Option.some.inj l5)))
end Go.Proofs.Ytecgipilamefmaa

/- Sines of plain numbers. -/
set_option linter.unusedVariables false
set_option linter.unusedSimpArgs false
namespace Go.Proofs.Ytecgipilamefmaa
open Fl Go.RowKit Ieee
def cMone : Nat := 13830554455654793216
def sA (x : O) : O := wide (sinG x)
def sS (x : O) : O := opO .add .f64 (opO .mul .f64 (sA x) (sA x)) (opO .mul .f64 (sA (opO .add .f32 x (some 1048576000))) (sA (opO .add .f32 x (some 1048576000))))
def sinChk (i : Nat) : Bool :=
  !gt64 (sA (some (plW i))) (some cOne) && !lt64 (sA (some (plW i))) (some cMone) && !gt64 (gapO (sS (some (plW i))) (some cOne)) (some cTol4)
  && !gt64 (gapO (sA (some (plW i))) (sA (opO .add .f32 (some (plW i)) (some 1065353216)))) (some cTol4) && !gt64 (gapO (sA (some (plW i))) ((sA (some (Op.negFloat .f32 (plW i)))).map (Op.negFloat .f64))) (some cTol4)
set_option maxHeartbeats 1000000000 in
set_option maxRecDepth 100000 in
theorem s_b0 : ∀ b < 12, sinChk (0 + b) = true := by decide +kernel
set_option maxHeartbeats 1000000000 in
set_option maxRecDepth 100000 in
theorem s_b1 : ∀ b < 12, sinChk (12 + b) = true := by decide +kernel
set_option maxHeartbeats 1000000000 in
set_option maxRecDepth 100000 in
theorem s_b2 : ∀ b < 12, sinChk (24 + b) = true := by decide +kernel
set_option maxHeartbeats 1000000000 in
set_option maxRecDepth 100000 in
theorem s_b3 : ∀ b < 12, sinChk (36 + b) = true := by decide +kernel
set_option maxHeartbeats 1000000000 in
set_option maxRecDepth 100000 in
theorem s_b4 : ∀ b < 12, sinChk (48 + b) = true := by decide +kernel
set_option maxHeartbeats 1000000000 in
set_option maxRecDepth 100000 in
theorem s_b5 : ∀ b < 12, sinChk (60 + b) = true := by decide +kernel
set_option maxHeartbeats 1000000000 in
set_option maxRecDepth 100000 in
theorem s_b6 : ∀ b < 12, sinChk (72 + b) = true := by decide +kernel
set_option maxHeartbeats 1000000000 in
set_option maxRecDepth 100000 in
theorem s_b7 : ∀ b < 12, sinChk (84 + b) = true := by decide +kernel
set_option maxHeartbeats 1000000000 in
set_option maxRecDepth 100000 in
theorem s_b8 : ∀ b < 12, sinChk (96 + b) = true := by decide +kernel
set_option maxHeartbeats 1000000000 in
set_option maxRecDepth 100000 in
theorem s_b9 : ∀ b < 12, sinChk (108 + b) = true := by decide +kernel
set_option maxHeartbeats 1000000000 in
set_option maxRecDepth 100000 in
theorem s_b10 : ∀ b < 12, sinChk (120 + b) = true := by decide +kernel
set_option maxHeartbeats 1000000000 in
set_option maxRecDepth 100000 in
theorem s_b11 : ∀ b < 12, sinChk (132 + b) = true := by decide +kernel
set_option maxHeartbeats 1000000000 in
set_option maxRecDepth 100000 in
theorem s_b12 : ∀ b < 12, sinChk (144 + b) = true := by decide +kernel
set_option maxHeartbeats 1000000000 in
set_option maxRecDepth 100000 in
theorem s_b13 : ∀ b < 12, sinChk (156 + b) = true := by decide +kernel
set_option maxHeartbeats 1000000000 in
set_option maxRecDepth 100000 in
theorem s_b14 : ∀ b < 12, sinChk (168 + b) = true := by decide +kernel
set_option maxHeartbeats 1000000000 in
set_option maxRecDepth 100000 in
theorem s_b15 : ∀ b < 12, sinChk (180 + b) = true := by decide +kernel
set_option maxHeartbeats 1000000000 in
set_option maxRecDepth 100000 in
theorem s_b16 : ∀ b < 12, sinChk (192 + b) = true := by decide +kernel
set_option maxHeartbeats 1000000000 in
set_option maxRecDepth 100000 in
theorem s_b17 : ∀ b < 12, sinChk (204 + b) = true := by decide +kernel
set_option maxHeartbeats 1000000000 in
set_option maxRecDepth 100000 in
theorem s_b18 : ∀ b < 12, sinChk (216 + b) = true := by decide +kernel
set_option maxHeartbeats 1000000000 in
set_option maxRecDepth 100000 in
theorem s_b19 : ∀ b < 12, sinChk (228 + b) = true := by decide +kernel
set_option maxHeartbeats 1000000000 in
set_option maxRecDepth 100000 in
theorem s_b20 : ∀ b < 12, sinChk (240 + b) = true := by decide +kernel
set_option maxHeartbeats 1000000000 in
set_option maxRecDepth 100000 in
theorem s_b21 : ∀ b < 6, sinChk (252 + b) = true := by decide +kernel
theorem sin_lit (k : Nat) (hk : k < 258) : sinChk k = true := by
  by_cases h0 : k < 12
  · have h := s_b0 (k - 0) (by omega); rwa [show 0 + (k - 0) = k by omega] at h
  by_cases h1 : k < 24
  · have h := s_b1 (k - 12) (by omega); rwa [show 12 + (k - 12) = k by omega] at h
  by_cases h2 : k < 36
  · have h := s_b2 (k - 24) (by omega); rwa [show 24 + (k - 24) = k by omega] at h
  by_cases h3 : k < 48
  · have h := s_b3 (k - 36) (by omega); rwa [show 36 + (k - 36) = k by omega] at h
  by_cases h4 : k < 60
  · have h := s_b4 (k - 48) (by omega); rwa [show 48 + (k - 48) = k by omega] at h
  by_cases h5 : k < 72
  · have h := s_b5 (k - 60) (by omega); rwa [show 60 + (k - 60) = k by omega] at h
  by_cases h6 : k < 84
  · have h := s_b6 (k - 72) (by omega); rwa [show 72 + (k - 72) = k by omega] at h
  by_cases h7 : k < 96
  · have h := s_b7 (k - 84) (by omega); rwa [show 84 + (k - 84) = k by omega] at h
  by_cases h8 : k < 108
  · have h := s_b8 (k - 96) (by omega); rwa [show 96 + (k - 96) = k by omega] at h
  by_cases h9 : k < 120
  · have h := s_b9 (k - 108) (by omega); rwa [show 108 + (k - 108) = k by omega] at h
  by_cases h10 : k < 132
  · have h := s_b10 (k - 120) (by omega); rwa [show 120 + (k - 120) = k by omega] at h
  by_cases h11 : k < 144
  · have h := s_b11 (k - 132) (by omega); rwa [show 132 + (k - 132) = k by omega] at h
  by_cases h12 : k < 156
  · have h := s_b12 (k - 144) (by omega); rwa [show 144 + (k - 144) = k by omega] at h
  by_cases h13 : k < 168
  · have h := s_b13 (k - 156) (by omega); rwa [show 156 + (k - 156) = k by omega] at h
  by_cases h14 : k < 180
  · have h := s_b14 (k - 168) (by omega); rwa [show 168 + (k - 168) = k by omega] at h
  by_cases h15 : k < 192
  · have h := s_b15 (k - 180) (by omega); rwa [show 180 + (k - 180) = k by omega] at h
  by_cases h16 : k < 204
  · have h := s_b16 (k - 192) (by omega); rwa [show 192 + (k - 192) = k by omega] at h
  by_cases h17 : k < 216
  · have h := s_b17 (k - 204) (by omega); rwa [show 204 + (k - 204) = k by omega] at h
  by_cases h18 : k < 228
  · have h := s_b18 (k - 216) (by omega); rwa [show 216 + (k - 216) = k by omega] at h
  by_cases h19 : k < 240
  · have h := s_b19 (k - 228) (by omega); rwa [show 228 + (k - 228) = k by omega] at h
  by_cases h20 : k < 252
  · have h := s_b20 (k - 240) (by omega); rwa [show 240 + (k - 240) = k by omega] at h
  by_cases h21 : k < 258
  · have h := s_b21 (k - 252) (by omega); rwa [show 252 + (k - 252) = k by omega] at h
  omega
end Go.Proofs.Ytecgipilamefmaa

/- The law of sines. -/
set_option linter.unusedVariables false
set_option linter.unusedSimpArgs false
namespace Go.Proofs.Ytecgipilamefmaa
open Fl Go.RowKit Ieee
theorem wpList_on {ops : Array Oper} {rest : List Oper} {o : Oper} {a : Act} {Q : Exit → Act → World → Prop} {w : World} (hw : Region.wanted o (yielded ops a.tmps) = true)
    (h : wpList Try.prog ops Q ({ o with guard := none } :: rest) a w) : wpList Try.prog ops Q (o :: rest) a w := by
  unfold wpList at h ⊢
  rw [if_pos hw]
  rw [if_pos (by rfl)] at h
  exact h
def expE : Nat := (expO (some cOne)).getD 0
set_option maxRecDepth 100000 in
theorem exp1_tab : expO (some cOne) = some expE ∧ rung .f64 expE ≤ rung .f64 w100 ∧ convO .f64 .f32 (some expE) = some 1076754516 := by decide +kernel
theorem implExp1 (w : World) : Calls Try.prog 20 #[.float .f32 1065353216] w fun e w' => e = .returned (.float .f32 1076754516) ∧ ∃ m, w' = w.drewN m := by
  obtain ⟨t1, t2, t3⟩ := exp1_tab
  go_enter Try.func20, Try.ntmps20
  go_wp2_with (with_reducible_and_instances refine wpList_wide _ rfl _ _ _ rfl _ rfl (by kernel_rfl) (by kernel_rfl) (by decide) ?_; intro r1 q1 hr; have V1 := Lib.hid hr; clear hr)
  refine (implExp_any _ _ V1.out.1).mono ?_
  rintro e w' ⟨r2, q2, rfl, hv, rfl⟩
  have hv' : Fv .f64 r2 (some expE) := by rw [V1.out.2, show wide (ab .f32 1065353216) = some cOne by decide +kernel, t1] at hv; exact hv
  have V2 := Lib.hid hv'
  clear hv hv'
  go_wp2_with fail
  refine (implNarrow_any _ _ V2.out.1 (by obtain rfl := ab_some V2.out.2; exact fits_size t2)).mono ?_
  rintro e w' ⟨r3, q3, rfl, hv, rfl⟩
  have h3 := hv.2
  rw [V2.out.2, t3] at h3
  obtain rfl := ab_some h3
  go_wp2
  go_ret
  exact ⟨rfl, _, rfl⟩
theorem implTanh30w (w : World) : Calls Try.prog 50 #[.float .f64 4629137466983448576] w fun e w' => e = .returned (.float .f64 4607182418800017408) ∧ w = w' := by
  have h : FloatKind.f64.format.order 4629137466983448576 4626322717216342016 = some .gt := by decide +kernel
  go_enter Try.func50, Try.ntmps50
  go_wp2
  go_ret
  exact ⟨rfl, rfl⟩
theorem implTanh30 (w : World) : Calls Try.prog 22 #[.float .f32 1106247680] w fun e w' => e = .returned (.float .f32 1065353216) ∧ ∃ m, w' = w.drewN m := by
  go_enter Try.func22, Try.ntmps22
  go_wp2_with (with_reducible_and_instances refine wpList_wide _ rfl _ _ _ rfl _ rfl (by kernel_rfl) (by kernel_rfl) (by decide) ?_; intro r1 q1 hr; have V1 := Lib.hid hr; clear hr)
  have h1 := V1.out.2
  rw [show wide (ab .f32 1106247680) = some 4629137466983448576 by decide +kernel] at h1
  obtain rfl := ab_some h1
  refine (implTanh30w _).mono ?_
  rintro e w' ⟨rfl, rfl⟩
  go_wp2_with fail
  refine (implNarrow_any _ _ (by decide) (fits_size (by decide))).mono ?_
  rintro e w' ⟨r3, q3, rfl, hv, rfl⟩
  have h3 := hv.2
  rw [show convO .f64 .f32 (ab .f64 4607182418800017408) = some 1065353216 by decide +kernel] at h3
  obtain rfl := ab_some h3
  go_wp2
  go_ret
  exact ⟨rfl, _, rfl⟩
set_option maxRecDepth 100000 in
theorem sines_tab : logNO (some 1076754516) = some 1065353215 ∧ lt64 (gapO (wide (some 1065353215)) (some cOne)) (some cTol5) = true ∧ rootO (some 1091567616) = some 1077936128 ∧ gW 256 = 1065353216 := by decide +kernel
theorem gain_S {n : Int} (h1 : -256 ≤ n) (h2 : n ≤ 254) {r : Nat} (hr : Fv .f32 r (gainS n)) : r = gW (n + 256).toNat := by
  have h := (gain_lit (n + 256).toNat (by omega)).1
  rw [show (((n + 256).toNat : Nat) : Int) - 256 = n by omega] at h
  have h2 := hr.2
  unfold gainS at h2
  rw [if_pos (by simp only [inB, Bool.and_eq_true, decide_eq_true_eq]; omega), h] at h2
  exact (ab_some h2).symm
theorem inS {n : Int} (h1 : -256 ≤ n) (h2 : n ≤ 254) : inB n (-2000) 2000 = true := by simp only [inB, Bool.and_eq_true, decide_eq_true_eq]; omega
theorem gW_fv {k : Nat} (hk : k < 511) : Hid (Fv .f32 (gW k) (some (gW k))) := by
  obtain ⟨_, _, h1, h2⟩ := gOk_at (gain_lit k hk).2
  exact fvc (by omega) (by omega)
theorem gW_fin {k : Nat} (hk : k < 511) : rung .f32 (gW k) < FloatKind.f32.format.infRung ∧ rung .f32 (gW k) ≠ 0 ∧ sgn .f32 (gW k) = false := by
  obtain ⟨_, _, h1, h2⟩ := gOk_at (gain_lit k hk).2
  unfold rung sgn
  rw [sw32, ir32, Nat.mod_eq_of_lt (by omega), Nat.div_eq_of_lt (by omega)]
  exact ⟨h1, by omega, rfl⟩
theorem gains_gap (a b : Nat) (ha : a < 256) (hb : b < 256) : gt64 (gapO (opO .quo .f64 (opO .mul .f64 (wide (some (gW (a + 128)))) (wide (some (gW (b + 128))))) (wide (some (gW (a + b))))) (some cOne)) (some cTol5) = false := by
  obtain ⟨x1, _, x3⟩ := gW_fin (k := a + 128) (by omega)
  obtain ⟨y1, _, y3⟩ := gW_fin (k := b + 128) (by omega)
  obtain ⟨s1, s2, s3⟩ := gW_fin (k := a + b) (by omega)
  obtain ⟨m1, m2⟩ := gain_mul a b ha hb
  have e : 2 ^ 149 = 1048576 * 2 ^ 129 := by decide
  refine ratio_gap x1 y1 s1 s2 x3 y3 s3 ?_ ?_
  · generalize zv .f32 (rung .f32 (gW (a + 128))) * zv .f32 (rung .f32 (gW (b + 128))) = M at *
    generalize zv .f32 (rung .f32 (gW (a + b))) = S at *
    rw [e] at m1
    have e1 : 1048575 * (1048576 * 2 ^ 129) * S = 1048576 * ((2 ^ 20 - 1) * 2 ^ 129 * S) := by
      rw [show (2 ^ 20 - 1 : Nat) = 1048575 from rfl]; ac_rfl
    rw [e1] at m1
    exact Nat.le_of_mul_le_mul_left m1 (by decide)
  · generalize zv .f32 (rung .f32 (gW (a + 128))) * zv .f32 (rung .f32 (gW (b + 128))) = M at *
    generalize zv .f32 (rung .f32 (gW (a + b))) = S at *
    rw [e] at m2
    have e1 : 1048577 * (1048576 * 2 ^ 129) * S = 1048576 * ((2 ^ 20 + 1) * 2 ^ 129 * S) := by
      rw [show (2 ^ 20 + 1 : Nat) = 1048577 from rfl]; ac_rfl
    rw [e1] at m2
    exact Nat.le_of_mul_le_mul_left m2 (by decide)
set_option maxHeartbeats 16000000 in
set_option maxRecDepth 100000 in
theorem lawSines_any (A : Option Addr) (n c : Nat) (xs : List Int) (B : Option Addr) (m d : Nat) (ys : List Int) (w : World) (hA : Bs w w.heap.size A n xs) (hB : Bs w w.heap.size B m ys) :
    Calls Try.prog 5 #[.slice A n c, .slice B m d] w fun e w' => e = .returned (.bool true) ∧ w.Since w.heap.size w' := by
  have HA := Lib.hid hA; have HB := Lib.hid hB; clear hA hB
  cases hl : (decide ((1048576 : Int) < n) || decide ((1048576 : Int) < m))
  case true =>
    go_enter Try.func5, Try.ntmps5
    go_wp2_with fail
    refine (b10Long_any A B n c m d true w hl).mono ?_
    rintro e w1 ⟨rfl, hs⟩
    have S1 := Lib.hid hs; clear hs
    go_wp2
    go_ret
    exact ⟨rfl, S1.out⟩
  case false =>
    have hnm : n ≤ 1048576 ∧ m ≤ 1048576 := by simp only [Bool.or_eq_false_iff, decide_eq_false_iff_not] at hl; omega
    go_enter Try.func5, Try.ntmps5
    go_wp2_with fail
    refine (b10Long_any A B n c m d false w hl).mono ?_
    rintro e w1 ⟨rfl, hs⟩
    have S1 := Lib.hid hs; clear hs hl
    go_wp2_with fail
    refine (B10Plain_any A n c xs w1 ((HA.out.since S1.out (Nat.le_refl _)).more S1.out.size) (by omega)).mono ?_
    rintro e w2 ⟨x, X, rfl, hx, hp, hs⟩
    have S2 := Lib.hid (since_step S1.out hs)
    clear hs
    obtain ⟨i, hi, rfl⟩ := hp.out
    have hx2 := hx.out.2
    obtain rfl := ab_some hx2
    have T := sin_lit i hi
    have Hi := Lib.hid hi
    unfold sinChk at T
    generalize plW i = x at *
    clear hp hx2 hi Hi
    simp only [Bool.and_eq_true, Bool.not_eq_true'] at T
    obtain ⟨⟨⟨⟨U1, U2⟩, U3⟩, U4⟩, U5⟩ := T
    have T3 : Hid (gt64 (gapO (opO .add .f64 (opO .mul .f64 (sA (some x)) (sA (some x))) (opO .mul .f64 (sA (opO .add .f32 (some x) (some 1048576000))) (sA (opO .add .f32 (some x) (some 1048576000))))) (some cOne)) (some cTol4) = false) := Lib.hid U3
    have T4 := Lib.hid U4; have T5 : Hid (gt64 (gapO (sA (some x)) ((wide (sinG (some (Op.negFloat .f32 x)))).map (Op.negFloat .f64))) (some cTol4) = false) := Lib.hid U5; have T1 := Lib.hid U1; have T2 := Lib.hid U2
    clear U1 U2 U3 U4 U5
    have qq : Hid (Fv .f32 1048576000 (some 1048576000)) := fvc (by decide) (by decide)
    have qo : Hid (Fv .f32 1065353216 (some 1065353216)) := fvc (by decide) (by decide)
    have q1 := fq1
    have qm : Hid (Fv .f64 13830554455654793216 (some cMone)) := fv64c (by decide) (by rw [ab64]; rfl)
    have t4 : Hid (Fv .f64 4547007122018943789 (some cTol4)) := fv64c (by decide) (by rw [ab64]; rfl)
    have t5 : Hid (Fv .f64 4532020583610935537 (some cTol5)) := fv64c (by decide) (by rw [ab64]; rfl)
    go_wp2_with fail
    refine (implSineG_any x (some x) _ hx).mono ?_
    rintro e w3 ⟨r1, m1, rfl, hv, rfl⟩
    have V1 := Lib.hid hv; clear hv
    go_wp2_with (first | (with_reducible_and_instances refine Lo.wpList_wi _ rfl _ _ _ rfl _ _ rfl (by kernel_rfl) (by kernel_rfl) (by assumption) ?_; intro a1 _ hA1) | (with_reducible_and_instances refine Lo.wpList_fo _ rfl _ _ _ _ _ rfl _ _ _ _ _ rfl rfl rfl (by assumption) (by assumption) ?_; intro b1 _ hB1))
    change Hid (Fv .f64 a1 (sA (some x))) at hA1
    refine (implSineG_any b1 _ _ hB1).mono ?_
    rintro e w3 ⟨r2, m2, rfl, hv, rfl⟩
    have V2 := Lib.hid hv; clear hv
    go_wp2_with (first | (with_reducible_and_instances refine Lo.wpList_wi _ rfl _ _ _ rfl _ _ rfl (by kernel_rfl) (by kernel_rfl) (by assumption) ?_; intro a2 _ hA2) | (with_reducible_and_instances refine Lo.wpList_fo _ rfl _ _ _ _ _ rfl _ _ _ _ _ rfl rfl rfl (by assumption) (by assumption) ?_; intro b2 _ hB2))
    change Hid (Fv .f64 a2 (sA (opO .add .f32 (some x) (some 1048576000)))) at hA2
    refine (implSineG_any b2 _ _ hB2).mono ?_
    rintro e w3 ⟨r3, m3, rfl, hv, rfl⟩
    have V3 := Lib.hid hv; clear hv
    have hN : Hid (Fv .f32 (Op.negFloat .f32 x) (some (Op.negFloat .f32 x))) := Lib.hid ⟨neg_lt .f32 hx.out.1, by rw [ab_neg, hx.out.2]; rfl⟩
    go_wp2_with (first | (with_reducible_and_instances refine Lo.wpList_wi _ rfl _ _ _ rfl _ _ rfl (by kernel_rfl) (by kernel_rfl) (by assumption) ?_; intro a3 _ hA3))
    change Hid (Fv .f64 a3 (sA (opO .add .f32 (some x) (some 1065353216)))) at hA3
    refine (implSineG_any (Op.negFloat .f32 x) _ _ hN).mono ?_
    rintro e w3 ⟨r4, m4, rfl, hv, rfl⟩
    have V4 := Lib.hid hv; clear hv
    have o1 := gt64_fv hA1 q1
    have o2 := lt64_fv hA1 qm
    rw [T1.out] at o1
    rw [T2.out] at o2
    clear V1 V2 V3 hB1 hB2 hN hx
    go_wp2_with (first | (with_reducible_and_instances refine Lo.wpList_wi _ rfl _ _ _ rfl _ _ rfl (by kernel_rfl) (by kernel_rfl) (by assumption) ?_; intro a4 _ hA4; have hA4' := neg64_fv hA4) | (go_at_call 17; refine (gap_any _ _ _ _ _ (by assumption) (by assumption)).mono ?_; rintro e w9 ⟨rg, mg, rfl, hv, rfl⟩; have hg := Lib.hid hv; clear hv; have gg := gt64_fv hg t4; first | rw [T3.out] at gg | rw [T4.out] at gg | rw [T5.out] at gg) | (with_reducible_and_instances refine Lo.wpList_fo _ rfl _ _ _ _ _ rfl _ _ _ _ _ rfl rfl rfl (by assumption) (by assumption) ?_; intro rr nn hrr) | (with_reducible_and_instances refine wpList_on rfl ?_; refine Lo.wpList_fo _ rfl _ _ _ _ _ rfl _ _ _ _ _ rfl rfl rfl (by assumption) (by assumption) ?_; intro rr nn hrr))
    generalize hW : World.drewN _ _ = W3
    have S3 : Hid (w.Since w.heap.size W3) := Lib.hid (by rw [← hW]; exact since_drewN S2.out _)
    clear hW S2 S1 hA1 hA2 hA3 hA4 hA4' T1 T2 T3 T4 T5
    refine (b10At_any B m d ys 0 256 W3 ((HB.out.since S3.out (Nat.le_refl _)).more S3.out.size) (by omega) (by omega)).mono ?_
    rintro e w4 ⟨v4, rfl, c1, c2, hs⟩
    have c3 := c2 (by omega)
    have S4 := Lib.hid (since_step S3.out hs)
    clear hs c2 S3
    go_wp2_with fail
    refine (b10At_any B m d ys 1 256 w4 ((HB.out.since S4.out (Nat.le_refl _)).more S4.out.size) (by omega) (by omega)).mono ?_
    rintro e w5 ⟨v5, rfl, d1, d2, hs⟩
    have d3 := d2 (by omega)
    have S5 := Lib.hid (since_step S4.out hs)
    clear hs d2 S4
    obtain ⟨p, rfl⟩ := Int.eq_ofNat_of_zero_le c1
    obtain ⟨q, rfl⟩ := Int.eq_ofNat_of_zero_le d1
    have hpq : Hid (p < 256 ∧ q < 256) := Lib.hid (by omega)
    have G := Lib.hid (gains_gap p q hpq.out.1 hpq.out.2)
    go_wp2_with fail
    refine (implGainOf_any _ _).mono ?_
    rintro e w6 ⟨r6, m6, rfl, hv, rfl⟩
    have e6 := gain_S (by omega) (by omega) hv
    rw [inS (by omega) (by omega)]
    rw [show ((p : Int) - 128 + 256).toNat = p + 128 by omega] at e6
    subst e6
    clear hv
    go_wp2_with fail
    refine (implGainOf_any _ _).mono ?_
    rintro e w6 ⟨r6, m7, rfl, hv, rfl⟩
    have e6 := gain_S (by omega) (by omega) hv
    rw [inS (by omega) (by omega)]
    rw [show ((q : Int) - 128 + 256).toNat = q + 128 by omega] at e6
    subst e6
    clear hv
    go_wp2_with fail
    refine (implGainOf_any _ _).mono ?_
    rintro e w6 ⟨r6, m8, rfl, hv, rfl⟩
    have e6 := gain_S (by omega) (by omega) hv
    rw [inS (by omega) (by omega)]
    rw [show ((p : Int) - 128 + ((q : Int) - 128) + 256).toNat = p + q by omega] at e6
    subst e6
    clear hv
    go_wp2_with fail
    refine (implGainOf_any _ _).mono ?_
    rintro e w6 ⟨r6, m9, rfl, hv, rfl⟩
    have e6 := gain_S (by omega) (by omega) hv
    rw [inS (by omega) (by omega)]
    rw [show ((0 : Int) + 256).toNat = 256 by rfl, sines_tab.2.2.2] at e6
    subst e6
    clear hv
    have fp := gW_fv (k := p + 128) (by have := hpq.out; omega)
    have fq := gW_fv (k := q + 128) (by have := hpq.out; omega)
    have fs := gW_fv (k := p + q) (by have := hpq.out; omega)
    have o1 : FloatKind.f32.format.order 1065353216 1065353216 = some .eq := by decide
    generalize gW (p + 128) = gp at *
    generalize gW (q + 128) = gq at *
    generalize gW (p + q) = gs at *
    clear c1 c3 d1 d3 hpq
    go_wp2_with (first | (go_at_call 17; refine (gap_any _ _ _ _ _ (by assumption) (by assumption)).mono ?_; rintro e w9 ⟨rg, mg, rfl, hv, rfl⟩; have hg := Lib.hid hv; clear hv; have gg := gt64_fv hg t5; rw [G.out] at gg) | (with_reducible_and_instances refine Lo.wpList_wi _ rfl _ _ _ rfl _ _ rfl (by kernel_rfl) (by kernel_rfl) (by assumption) ?_; intro rr nn hrr) | (with_reducible_and_instances refine Lo.wpList_fo _ rfl _ _ _ _ _ rfl _ _ _ _ _ rfl rfl rfl (by assumption) (by assumption) ?_; intro rr nn hrr) | (with_reducible_and_instances refine wpList_on rfl ?_; refine Lo.wpList_fo _ rfl _ _ _ _ _ rfl _ _ _ _ _ rfl rfl rfl (by assumption) (by assumption) ?_; intro rr nn hrr))
    refine (implExp1 _).mono ?_
    rintro e w6 ⟨rfl, k1, rfl⟩
    go_wp2_with fail
    refine (implLogN_any 1076754516 _ (by decide)).mono ?_
    rintro e w6 ⟨r7, k2, rfl, hv, rfl⟩
    obtain ⟨t1, t2, t3, t4'⟩ := sines_tab
    have h7 := hv.2
    rw [show ab .f32 1076754516 = some 1076754516 by decide, t1] at h7
    obtain rfl := ab_some h7
    have hl : Hid (Fv .f32 1065353215 (some 1065353215)) := fvc (by decide) (by decide)
    have G2 := Lib.hid t2
    have o2 : FloatKind.f32.format.order 1077936128 1077936128 = some .eq := by decide
    have HR : Hid (∀ w, Calls Try.prog 21 #[.float .f32 1091567616] w fun e w' => e = .returned (.float .f32 1077936128) ∧ ∃ m, w' = w.drewN m) := Lib.hid fun w => (implRoot_any 1091567616 w (by decide)).mono fun e w' ⟨r, m, h1, h2, h3⟩ => by
      have h4 := h2.2
      rw [show ab .f32 1091567616 = some 1091567616 by decide, t3] at h4
      obtain rfl := ab_some h4
      exact ⟨h1, m, h3⟩
    clear t1 t2 t3 t4' h7 hv
    go_wp2_with (first | (go_at_call 17; refine (gap_any _ _ _ _ _ (by assumption) (by assumption)).mono ?_; rintro e w9 ⟨rh, mh, rfl, hv, rfl⟩; have hh := Lib.hid hv; clear hv; have gh := lt64_fv hh t5; rw [G2.out] at gh) | (with_reducible_and_instances refine Lo.wpList_wi _ rfl _ _ _ rfl _ _ rfl (by kernel_rfl) (by kernel_rfl) (by assumption) ?_; intro rr nn hrr) | (go_at_call 21; refine (HR.out _).mono ?_; rintro e w9 ⟨rfl, k3, rfl⟩) | (go_at_call 22; refine (implTanh30 _).mono ?_; rintro e w9 ⟨rfl, k4, rfl⟩))
    go_ret
    exact ⟨rfl, since_drewN S5.out _⟩
end Go.Proofs.Ytecgipilamefmaa

