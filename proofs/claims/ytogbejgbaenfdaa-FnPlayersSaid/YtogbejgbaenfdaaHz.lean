/- Joined: Hc Hd He Hf Hg Hh Hi Va Vb Vg Vh Vi Vl Vm Hl Hj Hm -/
import Derived.Test.YtogbejgbaenfdaaIl
import Derived.Test.YtogbejgbaenfdaaDl
import Derived.BigQuiet
import Derived.Test.YtogbejgbaenfdaaEg
import Derived.Test.YtogbejgbaenfdaaSc
import Derived.Test.YtogbejgbaenfdaaJk
import Derived.Test.YtogbejgbaenfdaaEi
import Derived.Test.YtogbejgbaenfdaaTa
import Derived.Test.YtogbejgbaenfdaaEh
import Derived.Test.YtogbejgbaenfdaaRz
import Derived.Test.YtogbejgbaenfdaaLw
import Derived.Test.YtogbejgbaenfdaaDr
import Derived.Test.YtogbejgbaenfdaaDs
import Derived.Test.YtogbejgbaenfdaaLf
/- Draws: bytes that can be read, and the source of draws. -/
set_option linter.unusedVariables false
set_option linter.unusedSimpArgs false
namespace Go.Proofs.Ytogbejgbaenfdaa
open Fl Go.RowKit
theorem and255u (z : Int) : 0 ≤ wrap64 (bits BinOp.and IntKind.u64 z 255) ∧ wrap64 (bits BinOp.and IntKind.u64 z 255) < 256 := by
  have h : bits BinOp.and IntKind.u64 z 255 = z % 256 := by
    have hb : (BitVec.ofInt 64 255).toNat = 255 := by decide
    have ha : (BitVec.ofInt 64 z).toNat = (z % 18446744073709551616).toNat := by rw [BitVec.toNat_ofInt]; rfl
    have hw : ∀ n : Nat, n < 256 → IntKind.u64.wrap (n : Int) = n := fun n h => by rw [IntKind.wrap_u64]; omega
    show IntKind.u64.wrap (((BitVec.ofInt 64 z &&& BitVec.ofInt 64 255).toNat : Nat) : Int) = _
    rw [BitVec.toNat_and, ha, hb]
    have e : ∀ n : Nat, n &&& 255 = n % 256 := fun n => Nat.and_two_pow_sub_one_eq_mod n 8
    rw [e, hw _ (Nat.mod_lt _ (by decide))]
    omega
  rw [h]
  unfold wrap64
  omega
/-- bytes that can be read -/
def Bs (w : World) (B : Nat) (A : Option Addr) (n : Nat) (xs : List Int) : Prop :=
  xs.length = n ∧ (∀ k, 0 ≤ wi xs k ∧ wi xs k < 256) ∧ (0 < n → ∃ g off, A = some ⟨g, off, none⟩ ∧ g < B ∧ ∀ k, k < n → w.cell? ⟨g, off + k, none⟩ = some (.int .u8 (wi xs k)))
theorem Bs.keep {w w' : World} {B : Nat} {A : Option Addr} {n : Nat} {xs : List Int} (h : Bs w B A n xs) (hk : ∀ g o, g < B → w'.cell? ⟨g, o, none⟩ = w.cell? ⟨g, o, none⟩) : Bs w' B A n xs :=
  ⟨h.1, h.2.1, fun hn => by
    obtain ⟨g, off, e, hg, hc⟩ := h.2.2 hn
    exact ⟨g, off, e, hg, fun k hk' => (hk g _ hg).trans (hc k hk')⟩⟩
theorem Bs.more {w : World} {B B' : Nat} {A : Option Addr} {n : Nat} {xs : List Int} (h : Bs w B A n xs) (hB : B ≤ B') : Bs w B' A n xs :=
  ⟨h.1, h.2.1, fun hn => by
    obtain ⟨g, off, e, hg, hc⟩ := h.2.2 hn
    exact ⟨g, off, e, by omega, hc⟩⟩
theorem Bs.since {w w' : World} {B B' : Nat} {A : Option Addr} {n : Nat} {xs : List Int} (h : Bs w B A n xs) (hs : w.Since B' w') (hB : B ≤ B') : Bs w' B A n xs :=
  h.keep fun g o hg => hs.cell (a := ⟨g, o, none⟩) (by show g < B'; omega)
theorem Bs.drewN {w : World} {B : Nat} {A : Option Addr} {n : Nat} {xs : List Int} (h : Bs w B A n xs) (m : Nat) : Bs (w.drewN m) B A n xs := h.keep fun _ _ _ => rfl
/-- a source's block -/
def SrcB (w : World) (b : Nat) (A : Option Addr) (n c : Nat) (i sd : Int) : Prop := w.heap[b]? = some (.cells #[.slice A n c, .int .i64 i, .int .u64 sd] 80 (0, 0))
theorem SrcB.lt {w : World} {b n c : Nat} {A : Option Addr} {i sd : Int} (h : SrcB w b A n c i sd) : b < w.heap.size := (Array.getElem?_eq_some_iff.1 h).1
theorem SrcB.c0 {w : World} {b n c : Nat} {A : Option Addr} {i sd : Int} (h : SrcB w b A n c i sd) : w.cell? ⟨b, 0, none⟩ = some (.slice A n c) := by unfold SrcB at h; simp [World.cell?, h]
theorem SrcB.c1 {w : World} {b n c : Nat} {A : Option Addr} {i sd : Int} (h : SrcB w b A n c i sd) : w.cell? ⟨b, 1, none⟩ = some (.int .i64 i) := by unfold SrcB at h; simp [World.cell?, h]
theorem SrcB.c2 {w : World} {b n c : Nat} {A : Option Addr} {i sd : Int} (h : SrcB w b A n c i sd) : w.cell? ⟨b, 2, none⟩ = some (.int .u64 sd) := by unfold SrcB at h; simp [World.cell?, h]
theorem SrcB.free {w : World} {b n c q : Nat} {A : Option Addr} {i sd : Int} (h : SrcB w b A n c i sd) : w.frozen? ⟨b, q, none⟩ = false := by unfold SrcB at h; simp [World.frozen?, h]
theorem SrcB.of {w w' : World} {b n c : Nat} {A : Option Addr} {i sd : Int} (h : SrcB w b A n c i sd) (e : w'.heap[b]? = w.heap[b]?) : SrcB w' b A n c i sd := e.trans h
theorem SrcB.set1 {w : World} {b n c : Nat} {A : Option Addr} {i sd i' : Int} (h : SrcB w b A n c i sd) : SrcB (w.setCell ⟨b, 1, none⟩ (.int .i64 i')) b A n c i' sd := by
  unfold SrcB at h ⊢
  simp [World.setCell, Array.getElem?_modify, h]
theorem SrcB.set2 {w : World} {b n c : Nat} {A : Option Addr} {i sd sd' : Int} (h : SrcB w b A n c i sd) : SrcB (w.setCell ⟨b, 2, none⟩ (.int .u64 sd')) b A n c i sd' := by
  unfold SrcB at h ⊢
  simp [World.setCell, Array.getElem?_modify, h]
/-- a source in block b that has drawn at most K times, whose bytes lie in blocks before B -/
def Src (B b K : Nat) (w : World) : Prop := ∃ (A : Option Addr) (n c : Nat) (xs : List Int) (i sd : Int), SrcB w b A n c i sd ∧ Bs w B A n xs ∧ B ≤ b ∧ n ≤ 1048576 ∧ 0 ≤ i ∧ i ≤ (K : Int)
theorem Src.on {B b K : Nat} {w w' : World} (h : Src B b K w) (hs : w.Since (b + 1) w') : Src B b K w' := by
  obtain ⟨A, n, c, xs, i, sd, h1, h2, h3, h4, h5⟩ := h
  exact ⟨A, n, c, xs, i, sd, h1.of (hs.block b (by omega)), h2.since hs (by omega), h3, h4, h5⟩
theorem Src.up {B b K K' : Nat} {w : World} (h : Src B b K w) (hK : K ≤ K') : Src B b K' w := by
  obtain ⟨A, n, c, xs, i, sd, h1, h2, h3, h4, h5, h6⟩ := h
  exact ⟨A, n, c, xs, i, sd, h1, h2, h3, h4, h5, by omega⟩
theorem Src.lt {B b K : Nat} {w : World} (h : Src B b K w) : b < w.heap.size := by
  obtain ⟨A, n, c, xs, i, sd, h1, h2, h3, h4, h5, h6⟩ := h
  exact h1.lt
theorem Src.drewN {B b K : Nat} {w : World} (h : Src B b K w) (m : Nat) : Src B b K (w.drewN m) := h.on (since_drewN (World.Since.refl _ _) m)
theorem on_post {b lo : Nat} {w a c : World} (h : On b w a) (s : a.Since lo c) (hl : w.heap.size ≤ lo) (hb : b < w.heap.size) : On b w c :=
  ⟨h.1.trans (since_mono s (by omega)), fun x hx hn => (s.block x (by omega)).trans (h.2 x hx hn)⟩
theorem Src.low {B b K : Nat} {w : World} (h : Src B b K w) : B ≤ b := by
  obtain ⟨A, n, c, xs, i, sd, h1, h2, h3, h4, h5, h6⟩ := h
  exact h3
set_option maxHeartbeats 4000000 in
set_option maxRecDepth 100000 in
theorem next_any (B b K : Nat) (w : World) (h : Src B b K w) (hK : K ≤ 1000000000) :
    Calls Try.prog 81 #[.pointer (some ⟨b, 0, none⟩)] w fun e w' => ∃ v : Int, e = .returned (.int .i64 v) ∧ 0 ≤ v ∧ v < 256 ∧ Src B b (K + 1) w' ∧ On b w w' := by
  obtain ⟨A, n, c, xs, i, sd, h1, h2, h3, h4, h5, h6⟩ := h
  have H1 := Lib.hid h1; have H2 := Lib.hid h2
  have c0 := h1.c0; have c1 := h1.c1; have c2 := h1.c2
  have f1 := h1.free (q := 1); have f2 := h1.free (q := 2)
  clear h1 h2
  by_cases hi : i < (n : Int)
  · have hd : decide (i < (n : Int)) = true := decide_eq_true hi
    have hd2 : decide (i + 1 ≤ (n : Int)) = true := decide_eq_true (by omega)
    obtain ⟨j, rfl⟩ := Int.eq_ofNat_of_zero_le h5
    obtain ⟨g, off, rfl, hg, hc⟩ := H2.out.2.2 (by omega)
    have hcell := hc j (by omega)
    have hv := H2.out.2.1 j
    clear hc
    go_enter Try.func81, Try.ntmps81
    go_wp2_with fail
    go_quiet (fail)
    go_wp2_with fail
    go_quiet (fail)
    go_wp2_with fail
    generalize IntKind.wrap .u64 (IntKind.wrap .u64 (_ + _) + 1442695040888963407) = sd'
    generalize hW : World.setCell _ _ _ = W
    have B1 : Hid (SrcB W b (some ⟨g, off, none⟩) n c ((j : Int) + 1) sd') := Lib.hid (by rw [← hW]; exact H1.out.set1.set2)
    have O1 : Hid (On b w W) := Lib.hid (by rw [← hW]; exact ((On.refl _ _).set _ _).set _ _)
    have d0 := B1.out.c0; have d1 := B1.out.c1; have d2 := B1.out.c2
    clear hW
    go_quiet (fail)
    go_wp2
    go_ret
    exact ⟨_, rfl, hv.1, hv.2, ⟨_, n, c, xs, _, sd', B1.out, by first | exact (H2.out.since O1.out.1 h3).drewN _ | exact ((H2.out.since O1.out.1 h3).drewN _).drewN _, h3, h4, by omega, by omega⟩, by first | exact O1.out.drewN _ | exact (O1.out.drewN _).drewN _⟩
  · have hd : decide (i < (n : Int)) = false := decide_eq_false hi
    have hd2 : decide (i + 1 ≤ (n : Int)) = false := decide_eq_false (by omega)
    go_enter Try.func81, Try.ntmps81
    go_wp2_with fail
    go_quiet (fail)
    go_wp2_with fail
    generalize IntKind.wrap .u64 (IntKind.wrap .u64 _ + 1442695040888963407) = sd'
    generalize hW : World.setCell _ _ _ = W
    have B1 : Hid (SrcB W b A n c (i + 1) sd') := Lib.hid (by rw [← hW]; exact H1.out.set1.set2)
    have O1 : Hid (On b w W) := Lib.hid (by rw [← hW]; exact ((On.refl _ _).set _ _).set _ _)
    have d0 := B1.out.c0; have d1 := B1.out.c1; have d2 := B1.out.c2
    clear hW
    go_quiet (fail)
    go_wp2
    go_ret
    have h255 := and255u (sd' / 1099511627776)
    exact ⟨_, rfl, h255.1, h255.2, ⟨_, n, c, xs, _, sd', B1.out, by first | exact (H2.out.since O1.out.1 h3).drewN _ | exact ((H2.out.since O1.out.1 h3).drewN _).drewN _, h3, h4, by omega, by omega⟩, by first | exact O1.out.drewN _ | exact (O1.out.drewN _).drewN _⟩
end Go.Proofs.Ytogbejgbaenfdaa

/- Draws: picks of numbers. -/
set_option linter.unusedVariables false
set_option linter.unusedSimpArgs false
namespace Go.Proofs.Ytogbejgbaenfdaa
open Fl Go.RowKit
set_option maxHeartbeats 4000000 in
set_option maxRecDepth 100000 in
theorem pick_any (B b K : Nat) (n : Int) (w : World) (h : Src B b K w) (hK : K ≤ 1000000) (hn : n ≤ 1000000000) :
    Calls Try.prog 43 #[.pointer (some ⟨b, 0, none⟩), .int .i64 n] w fun e w' => ∃ v : Int, e = .returned (.int .i64 v) ∧ 0 ≤ v ∧ (1 ≤ n → v < n) ∧ Src B b (K + 2) w' ∧ On b w w' := by
  by_cases h1 : n ≤ 1
  · have hd : decide (n ≤ 1) = true := decide_eq_true h1
    go_enter Try.func43, Try.ntmps43
    go_wp2
    go_ret
    exact ⟨0, rfl, by omega, fun _ => by omega, h.up (by omega), On.refl _ _⟩
  · have hd : decide (n ≤ 1) = false := decide_eq_false h1
    have hz : n ≠ 0 := by omega
    have HH := Lib.hid h; clear h
    by_cases h2 : 200 < n
    · have hd2 : decide (200 < n) = true := decide_eq_true h2
      go_enter Try.func43, Try.ntmps43
      go_wp2_with fail
      refine (next_any B b K w HH.out (by omega)).mono ?_
      rintro e w1 ⟨v1, rfl, a1, a2, s1, o1⟩
      have S1 := Lib.hid s1; have O1 := Lib.hid o1; clear s1 o1
      go_wp2_with fail
      refine (next_any B b (K + 1) w1 S1.out (by omega)).mono ?_
      rintro e w2 ⟨v2, rfl, a3, a4, s2, o2⟩
      have S2 := Lib.hid s2; have O2 := Lib.hid o2; clear s2 o2
      go_wp2
      go_ret
      exact ⟨_, rfl, by exact Int.emod_nonneg _ hz, fun _ => by exact Int.emod_lt_of_pos _ (by omega), S2.out, O1.out.trans O2.out⟩
    · have hd2 : decide (200 < n) = false := decide_eq_false h2
      go_enter Try.func43, Try.ntmps43
      go_wp2_with fail
      refine (next_any B b K w HH.out (by omega)).mono ?_
      rintro e w1 ⟨v1, rfl, a1, a2, s1, o1⟩
      have S1 := Lib.hid s1; have O1 := Lib.hid o1; clear s1 o1
      go_wp2
      go_ret
      exact ⟨_, rfl, by exact Int.emod_nonneg _ hz, fun _ => by exact Int.emod_lt_of_pos _ (by omega), S1.out.up (by omega), O1.out⟩
theorem one_any (B b K : Nat) (n : Int) (w : World) (h : Src B b K w) (hK : K ≤ 1000000) (hn : n ≤ 1000000000) :
    Calls Try.prog 42 #[.pointer (some ⟨b, 0, none⟩), .int .i64 n] w fun e w' => ∃ v : Bool, e = .returned (.bool v) ∧ Src B b (K + 2) w' ∧ On b w w' := by
  have HH := Lib.hid h; clear h
  go_enter Try.func42, Try.ntmps42
  go_wp2_with fail
  refine (pick_any B b K n w HH.out hK hn).mono ?_
  rintro e w1 ⟨v1, rfl, a1, a2, s1, o1⟩
  have S1 := Lib.hid s1; have O1 := Lib.hid o1; clear s1 o1
  go_wp2
  go_ret
  exact ⟨_, rfl, S1.out, O1.out⟩
/-- one of a list of numbers that lie in a block of their own -/
theorem among_any (B b K g n : Nat) (xs : List Int) (w : World) (h : Src B b K w) (hK : K ≤ 1000000) (hx : Is w w.heap.size (some ⟨g, 0, none⟩) n xs) (h0 : 0 < n) (hn : n ≤ 1000000) (hg : b < g) (hlt : g < w.heap.size) :
    Calls Try.prog 83 #[.pointer (some ⟨b, 0, none⟩), .slice (some ⟨g, 0, none⟩) n n] w fun e w' => ∃ k : Nat, e = .returned (.int .i64 (wi xs k)) ∧ k < n ∧ Src B b (K + 2) w' ∧ On b w w' := by
  have HH := Lib.hid h; have HX := Lib.hid hx; clear h hx
  go_enter Try.func83, Try.ntmps83
  go_wp2_with fail
  refine (pick_any B b K n w HH.out hK (by omega)).mono ?_
  rintro e w1 ⟨v1, rfl, a1, a2, s1, o1⟩
  have S1 := Lib.hid s1; have O1 := Lib.hid o1; clear s1 o1
  obtain ⟨k, rfl⟩ := Int.eq_ofNat_of_zero_le a1
  have hk : k < n := by have := a2 (by omega); omega
  have hcell : w1.cell? ⟨g, k, none⟩ = some (.int .i64 (wi xs k)) := by
    obtain ⟨g', off, e, hg', hc⟩ := HX.out.2 h0
    injection e with e
    injection e with e1 e2
    subst e1; subst e2
    have := hc k hk
    rw [Nat.zero_add] at this
    exact (cell_of_block (O1.out.2 g hlt (by omega)) _).trans this
  go_wp2
  go_ret
  exact ⟨k, rfl, hk, S1.out, O1.out⟩
end Go.Proofs.Ytogbejgbaenfdaa

/- Draws: numbers and lists of numbers, of any bits. -/
set_option linter.unusedVariables false
set_option linter.unusedSimpArgs false
namespace Go.Proofs.Ytogbejgbaenfdaa
open Fl Go.RowKit
set_option maxHeartbeats 4000000 in
set_option maxRecDepth 100000 in
theorem plain_any (B b K : Nat) (w : World) (h : Src B b K w) (hK : K ≤ 900000) :
    Calls Try.prog 67 #[.pointer (some ⟨b, 0, none⟩)] w fun e w' => ∃ q Q, e = .returned (.float .f32 q) ∧ Hid (Fv .f32 q Q) ∧ Src B b (K + 4) w' ∧ On b w w' := by
  have HH := Lib.hid h; clear h
  go_enter Try.func67, Try.ntmps67
  go_wp2_with fail
  refine (pick_any B b K 129 w HH.out (by omega) (by omega)).mono ?_
  rintro e w1 ⟨v1, rfl, a1, a2, s1, o1⟩
  have a3 := a2 (by omega)
  have S1 := Lib.hid s1; have O1 := Lib.hid o1; clear s1 o1 a2
  go_wp2_with fail
  refine (one_any B b (K + 2) 4 w1 S1.out (by omega) (by omega)).mono ?_
  rintro e w2 ⟨v2, rfl, s2, o2⟩
  have S2 := Lib.hid s2; have O2 := Lib.hid o2; clear s2 o2
  have q1 := fI_fv (v1 - 64)
  have q7 : Hid (Fv .f32 1088421888 (some 1088421888)) := fvc (by decide) (by decide)
  have q16 : Hid (Fv .f32 1098907648 (some 1098907648)) := fvc (by decide) (by decide)
  cases v2
  all_goals
    go_wp2_with (with_reducible_and_instances refine Lo.wpList_fo _ rfl _ _ _ _ _ rfl _ _ _ _ _ rfl rfl rfl (by assumption) (by assumption) ?_; intro rr nn hrr)
    go_ret
    exact ⟨_, _, rfl, hrr, S2.out.drewN _, (O1.out.trans O2.out).drewN _⟩
theorem is_alloc (w : World) (T : TypeId) (xs : List Int) : Is (w.alloc (.cells (xs.map (Value.int .i64)).toArray T)) (w.alloc (.cells (xs.map (Value.int .i64)).toArray T)).heap.size (some ⟨w.heap.size, 0, none⟩) xs.length xs :=
  ⟨rfl, fun _ => ⟨w.heap.size, 0, rfl, by simp, fun k hk => by
    have h := Go.Deep.blk_alloc_new w (.cells (xs.map (Value.int .i64)).toArray T)
    rw [Nat.zero_add]
    unfold World.cell?
    simp only [h]
    simp [hk, iv, wi]⟩⟩
def numsA : List Int := [0, 2147483648, 2139095040, 4286578688, 2143289344, 1, 2139095039, 8388608, 8388607, 2147483649]
def numsB : List Int := [8388608, 2130706432, 1610612736, 536870912]
theorem numsA_in : ∀ k, k < 10 → 0 ≤ wi numsA k ∧ wi numsA k < 4294967296 := by decide
theorem numsB_in : ∀ k, k < 4 → 0 ≤ wi numsB k ∧ wi numsB k < 4294967296 := by decide
theorem from_int (z : Int) (h0 : 0 ≤ z) (h1 : z < 4294967296) (w : World) : Calls Try.prog 44 #[.int .i64 z] w fun e w' => ∃ q, e = .returned (.float .f32 q) ∧ Hid (Fv .f32 q (ab .f32 q)) ∧ w = w' := by
  obtain ⟨m, rfl⟩ := Int.eq_ofNat_of_zero_le h0
  have hm : m < 4294967296 := by omega
  exact (l01From_any m w hm).mono fun e w' ⟨h1, h2⟩ => ⟨m, h1, Lib.hid ⟨hm, rfl⟩, h2⟩
set_option maxHeartbeats 4000000 in
set_option maxRecDepth 100000 in
theorem float_any (B b K : Nat) (w : World) (h : Src B b K w) (hK : K ≤ 800000) :
    Calls Try.prog 45 #[.pointer (some ⟨b, 0, none⟩)] w fun e w' => ∃ q Q, e = .returned (.float .f32 q) ∧ Hid (Fv .f32 q Q) ∧ Src B b (K + 12) w' ∧ On b w w' := by
  have HH := Lib.hid h
  have hlt := h.lt
  clear h
  go_enter Try.func45, Try.ntmps45
  go_wp2_with fail
  refine (one_any B b K 12 w HH.out (by omega) (by omega)).mono ?_
  rintro e w1 ⟨v1, rfl, s1, o1⟩
  have S1 := Lib.hid s1; have O1 := Lib.hid o1; clear s1 o1
  cases v1
  · go_wp2_with fail
    refine (plain_any B b (K + 2) w1 S1.out (by omega)).mono ?_
    rintro e w2 ⟨q, Q, rfl, hq, s2, o2⟩
    have S2 := Lib.hid s2; have O2 := Lib.hid o2; clear s2 o2
    go_wp2
    go_ret
    exact ⟨_, _, rfl, hq, S2.out.up (by omega), O1.out.trans O2.out⟩
  · go_wp2_with fail
    refine (pick_any B b (K + 2) 4 w1 S1.out (by omega) (by omega)).mono ?_
    rintro e w2 ⟨v, rfl, a1, a2, s2, o2⟩
    have a3 := a2 (by omega)
    have S2 := Lib.hid s2; have O2 := Lib.hid (O1.out.trans o2); clear s2 o2 a2
    have hlt2 : b < w2.heap.size := S2.out.lt
    by_cases h0 : v = 0
    · subst h0
      go_wp2_with fail
      generalize hW : World.alloc _ _ = W
      have X1 : Hid (Is W W.heap.size (some ⟨w2.heap.size, 0, none⟩) 10 numsA) := Lib.hid (by rw [← hW]; exact is_alloc w2 2 numsA)
      have Z1 : Hid (W.heap.size = w2.heap.size + 1) := Lib.hid (by rw [← hW]; simp)
      have O3 : Hid (On b w W) := Lib.hid (by rw [← hW]; exact O2.out.alloc (by omega) _)
      have S3 : Hid (Src B b (K + 4) W) := Lib.hid (S2.out.on (by rw [← hW]; exact (World.Since.refl _ _).alloc (by omega) _))
      clear hW
      have hz := Z1.out
      refine (among_any B b (K + 4) w2.heap.size 10 numsA W S3.out (by omega) X1.out (by omega) (by omega) hlt2 (by omega)).mono ?_
      rintro e w3 ⟨k, rfl, hk, s4, o4⟩
      have S4 := Lib.hid s4; have O4 := Lib.hid (O3.out.trans o4); clear s4 o4
      have hm := numsA_in k hk
      generalize wi numsA k = m at *
      go_wp2_with fail
      refine (from_int m hm.1 hm.2 _).mono ?_
      rintro e w5 ⟨q, rfl, hq, rfl⟩
      go_wp2
      go_ret
      exact ⟨_, _, rfl, hq, S4.out.up (by omega), O4.out⟩
    · by_cases h1 : v = 1
      · subst h1
        go_wp2_with fail
        refine (pick_any B b (K + 4) 65536 w2 S2.out (by omega) (by omega)).mono ?_
        rintro e w3 ⟨v3, rfl, b1, b2, s3, o3⟩
        have b3 := b2 (by omega)
        have S3 := Lib.hid s3; have O3 := Lib.hid (O2.out.trans o3); clear s3 o3 b2
        go_wp2_with fail
        refine (pick_any B b (K + 4 + 2) 65536 w3 S3.out (by omega) (by omega)).mono ?_
        rintro e w4 ⟨v4, rfl, c1, c2, s4, o4⟩
        have c3 := c2 (by omega)
        have S4 := Lib.hid s4; have O4 := Lib.hid (O3.out.trans o4); clear s4 o4 c2
        go_wp2_with fail
        refine (from_int (v3 * 65536 + v4) (by omega) (by omega) _).mono ?_
        rintro e w5 ⟨q, rfl, hq, rfl⟩
        go_wp2
        go_ret
        exact ⟨_, _, rfl, hq, S4.out.up (by omega), O4.out⟩
      · by_cases h2 : v = 2
        · subst h2
          go_wp2_with fail
          refine (pick_any B b (K + 4) 65536 w2 S2.out (by omega) (by omega)).mono ?_
          rintro e w3 ⟨v3, rfl, b1, b2, s3, o3⟩
          have b3 := b2 (by omega)
          have S3 := Lib.hid s3; have O3 := Lib.hid (O2.out.trans o3); clear s3 o3 b2
          go_wp2_with fail
          refine (from_int (v3 * 65536) (by omega) (by omega) _).mono ?_
          rintro e w5 ⟨q, rfl, hq, rfl⟩
          go_wp2
          go_ret
          exact ⟨_, _, rfl, hq, S3.out.up (by omega), O3.out⟩
        · have e0 : decide (v = 0) = false := decide_eq_false h0
          have e1 : decide (v = 1) = false := decide_eq_false h1
          have e2 : decide (v = 2) = false := decide_eq_false h2
          have g0 : (v == 0) = false := by simpa using h0
          have g1 : (v == 1) = false := by simpa using h1
          have g2 : (v == 2) = false := by simpa using h2
          go_wp2_with fail
          refine (plain_any B b (K + 4) w2 S2.out (by omega)).mono ?_
          rintro e w3 ⟨q, Q, rfl, hq, s3, o3⟩
          have S3 := Lib.hid s3; have O3 := Lib.hid (O2.out.trans o3); clear s3 o3
          have hlt3 : b < w3.heap.size := S3.out.lt
          go_wp2_with fail
          generalize hW : World.alloc _ _ = W
          have X1 : Hid (Is W W.heap.size (some ⟨w3.heap.size, 0, none⟩) 4 numsB) := Lib.hid (by rw [← hW]; exact is_alloc w3 2 numsB)
          have Z1 : Hid (W.heap.size = w3.heap.size + 1) := Lib.hid (by rw [← hW]; simp)
          have O5 : Hid (On b w W) := Lib.hid (by rw [← hW]; exact O3.out.alloc (by omega) _)
          have S5 : Hid (Src B b (K + 4 + 4) W) := Lib.hid (S3.out.on (by rw [← hW]; exact (World.Since.refl _ _).alloc (by omega) _))
          clear hW
          have hz := Z1.out
          refine (among_any B b (K + 4 + 4) w3.heap.size 4 numsB W S5.out (by omega) X1.out (by omega) (by omega) hlt3 (by omega)).mono ?_
          rintro e w6 ⟨k, rfl, hk, s6, o6⟩
          have S6 := Lib.hid s6; have O6 := Lib.hid (O5.out.trans o6); clear s6 o6
          have hm := numsB_in k hk
          generalize wi numsB k = m at *
          go_wp2_with fail
          refine (from_int m hm.1 hm.2 _).mono ?_
          rintro e w7 ⟨q2, rfl, hq2, rfl⟩
          go_wp2_with (with_reducible_and_instances refine Lo.wpList_fo _ rfl _ _ _ _ _ rfl _ _ _ _ _ rfl rfl rfl (by assumption) (by assumption) ?_; intro rr nn hrr)
          go_ret
          exact ⟨_, _, rfl, hrr, (S6.out.up (by omega)).drewN _, O6.out.drewN _⟩
end Go.Proofs.Ytogbejgbaenfdaa

/- Draws: lists of numbers, and what chooses by a byte. -/
set_option linter.unusedVariables false
set_option linter.unusedSimpArgs false
namespace Go.Proofs.Ytogbejgbaenfdaa
open Fl Go.RowKit
/-- a row of numbers whatever they are -/
def RwA (lo : Nat) (w : World) (v : Value) (k : Nat) : Prop := (∃ F, Rw lo w v k F) ∧ ∃ g c, v = .slice (some ⟨g, 0, none⟩) k c
theorem Rw.like {lo : Nat} {w : World} {v : Value} {k : Nat} {F G : Nat → O} (h : Rw lo w v k F) (e : ∀ j, j < k → F j = G j) : Rw lo w v k G := by
  obtain ⟨os, h1, h2, h3⟩ := h
  exact ⟨os, h1, h2, fun j hj => (h3 j hj).trans (e j hj)⟩
theorem Rw.fin {lo : Nat} {w : World} {v : Value} {k : Nat} {F : Nat → O} (h : Rw lo w v k F) : ∃ (A : Option Addr) (c : Nat) (xs : List Nat), v = .slice A k c ∧ k ≤ c ∧ (A = none → k = 0 ∧ c = 0) ∧ (∀ a, A = some a → ∃ g, a = ⟨g, 0, none⟩ ∧ lo ≤ g) ∧ Gs 24 w lo A k xs ∧ Are ⟨A, k, xs⟩ F := by
  obtain ⟨os, h1, hs, hf⟩ := h
  rcases h1.2 with ⟨rfl, rfl⟩ | ⟨g, cap, cur, rfl, hg, _, hk, _⟩
  · exact ⟨none, 0, os, rfl, Nat.le_refl _, fun _ => ⟨rfl, rfl⟩, (fun a h => by cases h), Gs.of_own h1 hs, hf⟩
  · exact ⟨some ⟨g, 0, none⟩, cap, os, rfl, hk, (fun h => by cases h), fun a h => by cases h; exact ⟨g, rfl, hg⟩, Gs.of_own h1 hs, hf⟩
theorem RwA.grown {lo : Nat} {w : World} {v : Value} {k : Nat} {F : Nat → O} (h : Rw lo w v (k + 1) F) : RwA lo w v (k + 1) := by
  refine ⟨⟨F, h⟩, ?_⟩
  obtain ⟨A, c, xs, rfl, _, hn, hs, _⟩ := h.fin
  cases A with
  | none => exact absurd (hn rfl).1 (by omega)
  | some a =>
    obtain ⟨g, rfl, _⟩ := hs a rfl
    exact ⟨g, c, rfl⟩
theorem RwA.end_ {lo : Nat} {w : World} {v : Value} {k : Nat} (h : RwA lo w v k) : ∃ g c xs, v = .slice (some ⟨g, 0, none⟩) k c ∧ k ≤ c ∧ Gs 24 w lo (some ⟨g, 0, none⟩) k xs := by
  obtain ⟨⟨F, hF⟩, g, c, rfl⟩ := h
  obtain ⟨A, c', xs, e, hc, _, _, hg, _⟩ := hF.fin
  injection e with e1 e2 e3
  subst e1; subst e3
  exact ⟨g, c, xs, rfl, hc, hg⟩
theorem RwA.pick {lo : Nat} {w : World} {v : Value} {k : Nat} (h : RwA lo w v k) (Q : O) : ∃ F, Rw lo w v k F ∧ F k = Q := by
  obtain ⟨⟨F, hF⟩, _⟩ := h
  exact ⟨fun j => if j = k then Q else F j, hF.like fun j hj => by simp [show j ≠ k by omega], by simp⟩
theorem RwA.on {lo g : Nat} {w w' : World} {v : Value} {k : Nat} (h : RwA lo w v k) (o : On g w w') (hg : g < lo) : RwA lo w' v k := by
  obtain ⟨⟨F, hF⟩, hv⟩ := h
  exact ⟨⟨F, hF.on o hg⟩, hv⟩
/-- numbers that a call has drawn: a list in memory of its own -/
def PDr (n : Nat) (w : World) (e : Ending) (w' : World) : Prop := ∃ (g c : Nat) (xs : List Nat), e = .returned (.slice (some ⟨g, 0, none⟩) n c) ∧ n ≤ c ∧ Gs 24 w' w.heap.size (some ⟨g, 0, none⟩) n xs ∧ w.Since w.heap.size w'
set_option maxHeartbeats 4000000 in
set_option maxRecDepth 100000 in
theorem floats_any (B b K N : Nat) (w : World) (h : Src B b K w) (hK : K ≤ 100000) (hN : N ≤ 10000) :
    Calls Try.prog 57 #[.pointer (some ⟨b, 0, none⟩), .int .i64 (N : Int)] w fun e w' => ∃ (g c : Nat) (xs : List Nat), e = .returned (.slice (some ⟨g, 0, none⟩) N c) ∧ N ≤ c ∧ Gs 24 w' w.heap.size (some ⟨g, 0, none⟩) N xs ∧ Src B b (K + 2 + 12 * N) w' ∧ On b w w' := by
  have HH := Lib.hid h
  have hlt := h.lt
  clear h
  go_enter Try.func57, Try.ntmps57
  go_wp2_with fail
  generalize hW : World.alloc _ _ = W
  have R1 : Hid (RwA w.heap.size W (.slice (some ⟨w.heap.size, 0, none⟩) 0 0) 0) := Lib.hid (by rw [← hW]; exact ⟨⟨fun _ => none, Rw.start w _ (Nat.le_refl _) _⟩, _, _, rfl⟩)
  have O1 : Hid (On b w W) := Lib.hid (by rw [← hW]; exact (On.refl _ _).alloc (by omega) _)
  have S1 : Hid (Src B b K W) := Lib.hid (HH.out.on (by rw [← hW]; exact (World.Since.refl _ _).alloc (by omega) _))
  clear hW
  refine (one_any B b K 4 W S1.out (by omega) (by omega)).mono ?_
  rintro e w1 ⟨st, rfl, s2, o2⟩
  have S2 := Lib.hid s2; have O2 := Lib.hid (O1.out.trans o2); have R2 := Lib.hid (R1.out.on o2 hlt); clear s2 o2 R1 O1 S1
  cases st
  all_goals
    go_wp2_with fail
    go_loopw [1, 5] (fun i v wr => ∃ k : Nat, k ≤ N ∧ i = .int .i64 ((N : Int) - k) ∧ RwA w.heap.size wr v k ∧ Src B b (K + 2 + 12 * k) wr ∧ On b w wr) (fun i _ _ => (intOf i).toNat)
    case atStart => exact ⟨0, Nat.zero_le _, by simp, R2.out, S2.out, O2.out⟩
    case round =>
      obtain ⟨k, hk, rfl, hr, hs, ho⟩ := hrel
      have HR := Lib.hid hr; have HS := Lib.hid hs; have HO := Lib.hid ho
      clear hr hs ho
      by_cases hlt2 : k < N
      · have hd : decide (0 < (N : Int) - k) = true := decide_eq_true (by omega)
        go_wp2_with fail
        first
        | refine (plain_any B b (K + 2 + 12 * k) wr HS.out (by omega)).mono ?_
        | refine (float_any B b (K + 2 + 12 * k) wr HS.out (by omega)).mono ?_
        rintro e w3 ⟨q, Q, rfl, hq, s3, o3⟩
        have S3 : Hid (Src B b (K + 2 + 12 * (k + 1)) w3) := Lib.hid (s3.up (by omega))
        have O3 := Lib.hid (HO.out.trans o3); have R3 := Lib.hid (HR.out.on o3 hlt)
        clear s3 o3
        obtain ⟨F, hF, hFk⟩ := R3.out.pick Q
        have hlo : w.heap.size ≤ w3.heap.size := O3.out.1.size
        have HF := Lib.hid hF; clear hF
        have hz : Hid (Fv .f32 q (F k)) := by rw [hFk]; exact hq
        have hlt3 : b < w3.heap.size := by omega
        go_wp2_with (first | (at_builtin; refine wpList_app1 rfl (.tmp 20) (.tmp 23) rfl w.heap.size _ k _ rfl _ _ rfl (by simp [go_sem]) (by omega) (by simp; omega) hz (HF.out.alloc _) ?_; intro v' w4 hR4 hS4) | (at_builtin; refine wpList_app1 rfl (.tmp 15) (.tmp 18) rfl w.heap.size _ k _ rfl _ _ rfl (by simp [go_sem]) (by omega) (by simp; omega) hz (HF.out.alloc _) ?_; intro v' w4 hR4 hS4))
        have hs4 : w3.Since w.heap.size w4 := ((World.Since.refl _ _).alloc hlo _).trans hS4.out
        have HS4 := Lib.hid hs4; clear hs4
        go_roundw
        case rel => exact ⟨k + 1, by omega, by go_num, RwA.grown hR4.out, S3.out.on (since_mono HS4.out (by omega)), on_post O3.out HS4.out (Nat.le_refl _) hlt⟩
        case measure => simp [intOf]; omega
      · have hd : decide (0 < (N : Int) - k) = false := decide_eq_false (by omega)
        obtain rfl : k = N := by omega
        obtain ⟨g, cp, zs, rfl, hcp, hg⟩ := HR.out.end_
        have HG := Lib.hid hg; clear hg
        go_wp2
        go_ret
        exact ⟨g, cp, zs, rfl, hcp, HG.out, HS.out, HO.out⟩
end Go.Proofs.Ytogbejgbaenfdaa

/- Draws: what laws draw of their bytes. -/
set_option linter.unusedVariables false
set_option linter.unusedSimpArgs false
namespace Go.Proofs.Ytogbejgbaenfdaa
open Fl Go.RowKit
theorem source_any (A : Option Addr) (n c : Nat) (xs : List Int) (w : World) (h : Bs w w.heap.size A n xs) (hn : n ≤ 1048576) :
    Calls Try.prog 41 #[.slice A n c] w fun e w' => e = .returned (.pointer (some ⟨w.heap.size, 0, none⟩)) ∧ Src w.heap.size w.heap.size 0 w' ∧ w.Since w.heap.size w' := by
  have HH := Lib.hid h; clear h
  go_enter Try.func41, Try.ntmps41
  go_wp2
  go_ret
  refine ⟨rfl, ⟨A, n, c, xs, 0, 0, Go.Deep.blk_alloc_new _ _, HH.out.since ((World.Since.refl _ _).alloc (Nat.le_refl _) _) (Nat.le_refl _), Nat.le_refl _, hn, by omega, by omega⟩, (World.Since.refl _ _).alloc (Nat.le_refl _) _⟩
set_option maxHeartbeats 4000000 in
set_option maxRecDepth 100000 in
theorem samples_any (A : Option Addr) (n c : Nat) (xs : List Int) (m : Nat) (w : World) (h : Bs w w.heap.size A n xs) (hn : n ≤ 1048576) (hm : m ≤ 9000) :
    Calls Try.prog 27 #[.slice A n c, .int .i64 (m : Int)] w fun e w' => ∃ k, k ≤ m ∧ PDr k w e w' := by
  have HH := Lib.hid h; clear h
  go_enter Try.func27, Try.ntmps27
  go_wp2_with fail
  refine (source_any A n c xs w HH.out hn).mono ?_
  rintro e w1 ⟨rfl, s1, t1⟩
  have S1 := Lib.hid s1; have T1 := Lib.hid t1; clear s1 t1
  go_wp2_with fail
  refine (pick_any w.heap.size w.heap.size 0 ((m : Int) + 1) w1 S1.out (by omega) (by omega)).mono ?_
  rintro e w2 ⟨v, rfl, a1, a2, s2, o2⟩
  have a3 := a2 (by omega)
  obtain ⟨k, rfl⟩ := Int.eq_ofNat_of_zero_le a1
  have S2 := Lib.hid s2; have T2 := Lib.hid (T1.out.trans (o2.since (Nat.le_refl _))); clear s2 o2
  go_wp2_with fail
  refine (floats_any w.heap.size w.heap.size 2 k w2 S2.out (by omega) (by omega)).mono ?_
  rintro e w3 ⟨g, cp, zs, rfl, hp, hg, s3, o3⟩
  have hz := T2.out.size
  have G3 := Lib.hid (hg.less hz); have T3 := Lib.hid (T2.out.trans (o3.since (Nat.le_refl _))); clear hg s3 o3
  go_wp2
  go_ret
  exact ⟨k, by omega, g, cp, zs, rfl, hp, G3.out, T3.out⟩
set_option maxHeartbeats 4000000 in
set_option maxRecDepth 100000 in
theorem numbers_any (A : Option Addr) (n c : Nat) (xs : List Int) (m : Nat) (w : World) (h : Bs w w.heap.size A n xs) (hn : n ≤ 1048576) (hm : m ≤ 9000) :
    Calls Try.prog 22 #[.slice A n c, .int .i64 (m : Int)] w (PDr m w) := by
  have HH := Lib.hid h; clear h
  go_enter Try.func22, Try.ntmps22
  go_wp2_with fail
  refine (source_any A n c xs w HH.out hn).mono ?_
  rintro e w1 ⟨rfl, s1, t1⟩
  have S1 := Lib.hid s1; have T1 := Lib.hid t1; clear s1 t1
  go_wp2_with fail
  refine (floats_any w.heap.size w.heap.size 0 m w1 S1.out (by omega) (by omega)).mono ?_
  rintro e w3 ⟨g, cp, zs, rfl, hp, hg, s3, o3⟩
  have hz := T1.out.size
  have G3 := Lib.hid (hg.less hz); have T3 := Lib.hid (T1.out.trans (o3.since (Nat.le_refl _))); clear hg s3 o3
  go_wp2
  go_ret
  exact ⟨g, cp, zs, rfl, hp, G3.out, T3.out⟩
set_option maxHeartbeats 4000000 in
set_option maxRecDepth 100000 in
theorem numberD_any (A : Option Addr) (n c : Nat) (xs : List Int) (w : World) (h : Bs w w.heap.size A n xs) (hn : n ≤ 1048576) :
    Calls Try.prog 9 #[.slice A n c] w fun e w' => ∃ q Q, e = .returned (.float .f32 q) ∧ Hid (Fv .f32 q Q) ∧ w.Since w.heap.size w' := by
  have HH := Lib.hid h; clear h
  go_enter Try.func9, Try.ntmps9
  go_wp2_with fail
  refine (source_any A n c xs w HH.out hn).mono ?_
  rintro e w1 ⟨rfl, s1, t1⟩
  have S1 := Lib.hid s1; have T1 := Lib.hid t1; clear s1 t1
  go_wp2_with fail
  refine (one_any w.heap.size w.heap.size 0 2 w1 S1.out (by omega) (by omega)).mono ?_
  rintro e w2 ⟨v, rfl, s2, o2⟩
  have S2 := Lib.hid s2; have T2 := Lib.hid (T1.out.trans (o2.since (Nat.le_refl _))); clear s2 o2
  cases v
  · go_wp2_with fail
    refine (float_any w.heap.size w.heap.size 2 w2 S2.out (by omega)).mono ?_
    rintro e w3 ⟨q, Q, rfl, hq, s3, o3⟩
    have T3 := Lib.hid (T2.out.trans (o3.since (Nat.le_refl _))); clear s3 o3
    go_wp2
    go_ret
    exact ⟨_, _, rfl, hq, T3.out⟩
  · go_wp2_with fail
    refine (pick_any w.heap.size w.heap.size 2 65536 w2 S2.out (by omega) (by omega)).mono ?_
    rintro e w3 ⟨v3, rfl, b1, b2, s3, o3⟩
    have b3 := b2 (by omega)
    have S3 := Lib.hid s3; have T3 := Lib.hid (T2.out.trans (o3.since (Nat.le_refl _))); clear s3 o3 b2
    go_wp2_with fail
    refine (pick_any w.heap.size w.heap.size (2 + 2) 65536 w3 S3.out (by omega) (by omega)).mono ?_
    rintro e w4 ⟨v4, rfl, c1, c2, s4, o4⟩
    have c3 := c2 (by omega)
    have T4 := Lib.hid (T3.out.trans (o4.since (Nat.le_refl _))); clear s4 o4 c2
    go_wp2_with fail
    refine (from_int (v3 * 65536 + v4) (by omega) (by omega) _).mono ?_
    rintro e w5 ⟨q, rfl, hq, rfl⟩
    go_wp2
    go_ret
    exact ⟨_, _, rfl, hq, T4.out⟩
set_option maxHeartbeats 4000000 in
set_option maxRecDepth 100000 in
theorem plains_any (A : Option Addr) (n c : Nat) (xs : List Int) (m : Nat) (w : World) (h : Bs w w.heap.size A n xs) (hn : n ≤ 1048576) (hm : m ≤ 9000) :
    Calls Try.prog 31 #[.slice A n c, .int .i64 (m : Int)] w (PDr m w) := by
  have HH := Lib.hid h; clear h
  go_enter Try.func31, Try.ntmps31
  go_wp2_with fail
  refine (source_any A n c xs w HH.out hn).mono ?_
  rintro e w1 ⟨rfl, s1, t1⟩
  have S1 := Lib.hid s1; have T1 := Lib.hid t1; clear s1 t1
  go_wp2_with fail
  generalize hW : World.alloc _ _ = W
  have z1 := T1.out.size
  have R2 : Hid (RwA w1.heap.size W (.slice (some ⟨w1.heap.size, 0, none⟩) 0 0) 0) := Lib.hid (by rw [← hW]; exact ⟨⟨fun _ => none, Rw.start w1 _ (Nat.le_refl _) _⟩, _, _, rfl⟩)
  have S2 : Hid (Src w.heap.size w.heap.size 0 W) := Lib.hid (S1.out.on (by rw [← hW]; exact (World.Since.refl _ _).alloc (by have := S1.out.lt; omega) _))
  have O2 : Hid (On w.heap.size w1 W) := Lib.hid (by rw [← hW]; exact (On.refl _ _).alloc z1 _)
  have hl1 : w.heap.size < w1.heap.size := S1.out.lt
  clear hW
  go_loopw [6, 7] (fun v i wr => ∃ k : Nat, k ≤ m ∧ i = .int .i64 (k : Int) ∧ RwA w1.heap.size wr v k ∧ Src w.heap.size w.heap.size (4 * k) wr ∧ On w.heap.size w1 wr) (fun _ i _ => m - (intOf i).toNat)
  case atStart => exact ⟨0, Nat.zero_le _, rfl, R2.out, S2.out, O2.out⟩
  case round =>
    obtain ⟨k, hk, rfl, hr, hs, ho⟩ := hrel
    have HR := Lib.hid hr; have HS := Lib.hid hs; have HO := Lib.hid ho
    clear hr hs ho
    by_cases hlt2 : k < m
    · go_wp2_with fail
      refine (plain_any w.heap.size w.heap.size (4 * k) wr HS.out (by omega)).mono ?_
      rintro e w3 ⟨q, Q, rfl, hq, s3, o3⟩
      have S3 : Hid (Src w.heap.size w.heap.size (4 * (k + 1)) w3) := Lib.hid (s3.up (by omega))
      have O3 := Lib.hid (HO.out.trans o3); have R3 := Lib.hid (HR.out.on o3 hl1)
      clear s3 o3
      obtain ⟨F, hF, hFk⟩ := R3.out.pick Q
      have hlo : w1.heap.size ≤ w3.heap.size := O3.out.1.size
      have HF := Lib.hid hF; clear hF
      have hz : Hid (Fv .f32 q (F k)) := by rw [hFk]; exact hq
      go_wp2_with (at_builtin; refine wpList_app1 rfl (.tmp 16) (.tmp 19) rfl w1.heap.size _ k _ rfl _ _ rfl (by simp [go_sem]) (by omega) (by simp; omega) hz (HF.out.alloc _) ?_; intro v' w4 hR4 hS4)
      have hs4 : w3.Since w1.heap.size w4 := ((World.Since.refl _ _).alloc hlo _).trans hS4.out
      have HS4 := Lib.hid hs4; clear hs4
      go_roundw
      case rel => exact ⟨k + 1, by omega, by go_num, RwA.grown hR4.out, S3.out.on (since_mono HS4.out (by omega)), on_post O3.out HS4.out (Nat.le_refl _) hl1⟩
      case measure => simp [intOf]; omega
    · obtain rfl : k = m := by omega
      obtain ⟨g, cp, zs, rfl, hcp, hg⟩ := HR.out.end_
      have HG := Lib.hid (hg.less z1); clear hg
      have T3 : Hid (w.Since w.heap.size wr) := Lib.hid (T1.out.trans (HO.out.since (Nat.le_refl _)))
      go_wp2
      go_ret
      exact ⟨g, cp, zs, rfl, hcp, HG.out, T3.out⟩
/-- a number below m that a byte chooses -/
theorem r8At_any (A : Option Addr) (n c : Nat) (xs : List Int) (k m : Int) (w : World) (h : Bs w w.heap.size A n xs) (hk : 0 ≤ k) (hk2 : k ≤ 1000000000) :
    Calls Try.prog 28 #[.slice A n c, .int .i64 k, .int .i64 m] w fun e w' => ∃ v : Int, e = .returned (.int .i64 v) ∧ 0 ≤ v ∧ (1 ≤ m → v < m) ∧ w.Since w.heap.size w' := by
  have HH := Lib.hid h; clear h
  obtain ⟨j, rfl⟩ := Int.eq_ofNat_of_zero_le hk
  by_cases h1 : m ≤ 1
  · have hd : decide (m ≤ 1) = true := decide_eq_true h1
    go_enter Try.func28, Try.ntmps28
    go_wp2
    go_ret
    exact ⟨0, rfl, by omega, fun _ => by omega, by (repeat (first | (with_reducible refine Fl.sinDrew ?_) | (with_reducible refine World.Since.drew ?_) | (with_reducible refine Fl.sinSet ?_ ?_; rotate_left) | (with_reducible refine Fl.sinAlloc ?_ ?_; rotate_left) | with_reducible exact World.Since.refl _ _ | with_reducible assumption | (with_reducible refine Fl.sinStep (by with_reducible assumption) ?_))); all_goals (first | omega | (simp; done) | (simp; omega) | (simp [go_sem]; done) | (simp [go_sem]; omega))⟩
  · have hd : decide (m ≤ 1) = false := decide_eq_false h1
    by_cases h2 : (n : Int) ≤ (j : Int)
    · have hd2 : decide ((n : Int) ≤ (j : Int)) = true := decide_eq_true h2
      go_enter Try.func28, Try.ntmps28
      go_wp2
      go_ret
      exact ⟨0, rfl, by omega, fun _ => by omega, by (repeat (first | (with_reducible refine Fl.sinDrew ?_) | (with_reducible refine World.Since.drew ?_) | (with_reducible refine Fl.sinSet ?_ ?_; rotate_left) | (with_reducible refine Fl.sinAlloc ?_ ?_; rotate_left) | with_reducible exact World.Since.refl _ _ | with_reducible assumption | (with_reducible refine Fl.sinStep (by with_reducible assumption) ?_))); all_goals (first | omega | (simp; done) | (simp; omega) | (simp [go_sem]; done) | (simp [go_sem]; omega))⟩
    · have hd2 : decide ((n : Int) ≤ (j : Int)) = false := decide_eq_false h2
      obtain ⟨g, off, rfl, hg, hc⟩ := HH.out.2.2 (by omega)
      have hcell := hc j (by omega)
      have hv := HH.out.2.1 j
      have hz : m ≠ 0 := by omega
      clear hc
      go_enter Try.func28, Try.ntmps28
      go_wp2
      go_ret
      exact ⟨_, rfl, Int.emod_nonneg _ hz, fun _ => Int.emod_lt_of_pos _ (by omega), by (repeat (first | (with_reducible refine Fl.sinDrew ?_) | (with_reducible refine World.Since.drew ?_) | (with_reducible refine Fl.sinSet ?_ ?_; rotate_left) | (with_reducible refine Fl.sinAlloc ?_ ?_; rotate_left) | with_reducible exact World.Since.refl _ _ | with_reducible assumption | (with_reducible refine Fl.sinStep (by with_reducible assumption) ?_))); all_goals (first | omega | (simp; done) | (simp; omega) | (simp [go_sem]; done) | (simp [go_sem]; omega))⟩
theorem b10At_any (A : Option Addr) (n c : Nat) (xs : List Int) (k m : Int) (w : World) (h : Bs w w.heap.size A n xs) (hk : 0 ≤ k) (hk2 : k ≤ 1000000000) :
    Calls Try.prog 21 #[.slice A n c, .int .i64 k, .int .i64 m] w fun e w' => ∃ v : Int, e = .returned (.int .i64 v) ∧ 0 ≤ v ∧ (1 ≤ m → v < m) ∧ w.Since w.heap.size w' := by
  have HH := Lib.hid h; clear h
  obtain ⟨j, rfl⟩ := Int.eq_ofNat_of_zero_le hk
  by_cases h1 : m ≤ 1
  · have hd : decide (m ≤ 1) = true := decide_eq_true h1
    go_enter Try.func21, Try.ntmps21
    go_wp2
    go_ret
    exact ⟨0, rfl, by omega, fun _ => by omega, by (repeat (first | (with_reducible refine Fl.sinDrew ?_) | (with_reducible refine World.Since.drew ?_) | (with_reducible refine Fl.sinSet ?_ ?_; rotate_left) | (with_reducible refine Fl.sinAlloc ?_ ?_; rotate_left) | with_reducible exact World.Since.refl _ _ | with_reducible assumption | (with_reducible refine Fl.sinStep (by with_reducible assumption) ?_))); all_goals (first | omega | (simp; done) | (simp; omega) | (simp [go_sem]; done) | (simp [go_sem]; omega))⟩
  · have hd : decide (m ≤ 1) = false := decide_eq_false h1
    have hz : m ≠ 0 := by omega
    by_cases h2 : (j : Int) < (n : Int)
    · have hd2 : decide ((j : Int) < (n : Int)) = true := decide_eq_true h2
      obtain ⟨g, off, rfl, hg, hc⟩ := HH.out.2.2 (by omega)
      have hcell := hc j (by omega)
      have hv := HH.out.2.1 j
      clear hc
      go_enter Try.func21, Try.ntmps21
      go_wp2
      go_ret
      exact ⟨_, rfl, Int.emod_nonneg _ hz, fun _ => Int.emod_lt_of_pos _ (by omega), by (repeat (first | (with_reducible refine Fl.sinDrew ?_) | (with_reducible refine World.Since.drew ?_) | (with_reducible refine Fl.sinSet ?_ ?_; rotate_left) | (with_reducible refine Fl.sinAlloc ?_ ?_; rotate_left) | with_reducible exact World.Since.refl _ _ | with_reducible assumption | (with_reducible refine Fl.sinStep (by with_reducible assumption) ?_))); all_goals (first | omega | (simp; done) | (simp; omega) | (simp [go_sem]; done) | (simp [go_sem]; omega))⟩
    · have hd2 : decide ((j : Int) < (n : Int)) = false := decide_eq_false h2
      go_enter Try.func21, Try.ntmps21
      go_wp2
      go_ret
      exact ⟨_, rfl, Int.emod_nonneg _ hz, fun _ => Int.emod_lt_of_pos _ (by omega), by (repeat (first | (with_reducible refine Fl.sinDrew ?_) | (with_reducible refine World.Since.drew ?_) | (with_reducible refine Fl.sinSet ?_ ?_; rotate_left) | (with_reducible refine Fl.sinAlloc ?_ ?_; rotate_left) | with_reducible exact World.Since.refl _ _ | with_reducible assumption | (with_reducible refine Fl.sinStep (by with_reducible assumption) ?_))); all_goals (first | omega | (simp; done) | (simp; omega) | (simp [go_sem]; done) | (simp [go_sem]; omega))⟩
theorem b10Long_any (A B : Option Addr) (n c m d : Nat) (b : Bool) (w : World) (h : (decide ((1048576 : Int) < n) || decide ((1048576 : Int) < m)) = b) :
    Calls Try.prog 8 #[.slice A n c, .slice B m d] w fun e w' => e = .returned (.bool b) ∧ w.Since w.heap.size w' := by
  subst h
  cases h1 : decide ((1048576 : Int) < n)
  all_goals
    go_enter Try.func8, Try.ntmps8
    go_wp2
    go_ret
    exact ⟨ret_bool (by simp), by (repeat (first | (with_reducible refine Fl.sinDrew ?_) | (with_reducible refine World.Since.drew ?_) | (with_reducible refine Fl.sinSet ?_ ?_; rotate_left) | (with_reducible refine Fl.sinAlloc ?_ ?_; rotate_left) | with_reducible exact World.Since.refl _ _ | with_reducible assumption | (with_reducible refine Fl.sinStep (by with_reducible assumption) ?_))); all_goals (first | omega | (simp; done) | (simp; omega) | (simp [go_sem]; done) | (simp [go_sem]; omega))⟩
theorem r8Long_any (A B : Option Addr) (n c m d : Nat) (b : Bool) (w : World) (h : (decide ((48 : Int) < n) || decide ((48 : Int) < m)) = b) :
    Calls Try.prog 26 #[.slice A n c, .slice B m d] w fun e w' => e = .returned (.bool b) ∧ w.Since w.heap.size w' := by
  subst h
  cases h1 : decide ((48 : Int) < n)
  all_goals
    go_enter Try.func26, Try.ntmps26
    go_wp2
    go_ret
    exact ⟨ret_bool (by simp), by (repeat (first | (with_reducible refine Fl.sinDrew ?_) | (with_reducible refine World.Since.drew ?_) | (with_reducible refine Fl.sinSet ?_ ?_; rotate_left) | (with_reducible refine Fl.sinAlloc ?_ ?_; rotate_left) | with_reducible exact World.Since.refl _ _ | with_reducible assumption | (with_reducible refine Fl.sinStep (by with_reducible assumption) ?_))); all_goals (first | omega | (simp; done) | (simp; omega) | (simp [go_sem]; done) | (simp [go_sem]; omega))⟩
end Go.Proofs.Ytogbejgbaenfdaa

/- Draws: lists that a law compares, and the bytes of a law. -/
set_option linter.unusedVariables false
set_option linter.unusedSimpArgs false
namespace Go.Proofs.Ytogbejgbaenfdaa
open Fl Go.RowKit
set_option maxHeartbeats 8000000 in
theorem r8Same_any (A C : Option Addr) (n c d : Nat) (xs ys : List Nat) (w : World) (ha : Fs w w.heap.size A n xs) (hc : Fs w w.heap.size C n ys) (hn : n ≤ 1048576)
    (hs : ∀ k, k < n → ab .f32 (wd xs k) = ab .f32 (wd ys k)) :
    Calls Try.prog 30 #[.slice A n c, .slice C n d] w fun e w' => e = .returned (.bool true) ∧ w.Since w.heap.size w' := by
  have HA := Lib.hid ha
  have HC := Lib.hid hc
  have HS := Lib.hid hs
  clear ha hc hs
  go_enter Try.func30, Try.ntmps30
  go_wp2
  go_loopw [5] (fun i wr => ∃ k : Nat, k ≤ n ∧ i = .int .i64 k ∧ w.Since w.heap.size wr) (fun i _ => n - (intOf i).toNat)
  case atStart => exact ⟨0, Nat.zero_le _, rfl, World.Since.refl _ _⟩
  case round =>
    obtain ⟨k, hk, rfl, hs⟩ := hrel
    have HT := Lib.hid hs; clear hs
    by_cases hlt : k < n
    · obtain ⟨g, off, rfl, hg, hc1⟩ := HA.out.2.2 (by omega)
      obtain ⟨g', off', rfl, hg', hc2⟩ := HC.out.2.2 (by omega)
      have hcell : wr.cell? ⟨g, off + k, none⟩ = some (.float .f32 (wd xs k)) := (HT.out.cell (a := ⟨g, off + k, none⟩) hg).trans (hc1 k hlt)
      have hcell2 : wr.cell? ⟨g', off' + k, none⟩ = some (.float .f32 (wd ys k)) := (HT.out.cell (a := ⟨g', off' + k, none⟩) hg').trans (hc2 k hlt)
      have hw1 := HA.out.2.1.at_ k
      have hw2 := HC.out.2.1.at_ k
      have he : decide (bitsO (ab .f32 (wd xs k)) = bitsO (ab .f32 (wd ys k))) = true := decide_eq_true (by rw [HS.out k hlt])
      clear hc1 hc2
      go_wp2
      have HQ : Hid (∀ v : World, Calls Try.prog 12 #[.float .f32 (wd xs k), .float .f32 (wd ys k)] v fun e v' => e = .returned (.bool true) ∧ v' = v) := Lib.hid fun v => (implSame_any _ _ _ hw1 hw2).mono fun e v' ⟨h1, h2⟩ => ⟨by rw [h1, he], h2.symm⟩
      go_quiet (first | (go_at_call 12; refine Calls.quiet_of_same (HQ.out _)))
      go_wp2
      go_roundw
      case rel => exact ⟨k + 1, by omega, by go_num, since_drewN HT.out _⟩
      case measure => simp [intOf]; omega
    · go_wp2
      go_ret
      exact ⟨rfl, HT.out⟩
set_option maxHeartbeats 8000000 in
theorem b10Same_any (A C : Option Addr) (n c d : Nat) (xs ys : List Nat) (w : World) (ha : Fs w w.heap.size A n xs) (hc : Fs w w.heap.size C n ys) (hn : n ≤ 1048576)
    (hs : ∀ k, k < n → ab .f32 (wd xs k) = ab .f32 (wd ys k)) :
    Calls Try.prog 39 #[.slice A n c, .slice C n d] w fun e w' => e = .returned (.bool true) ∧ w.Since w.heap.size w' := by
  have HA := Lib.hid ha
  have HC := Lib.hid hc
  have HS := Lib.hid hs
  clear ha hc hs
  go_enter Try.func39, Try.ntmps39
  go_wp2
  go_loopw [5] (fun i wr => ∃ k : Nat, k ≤ n ∧ i = .int .i64 k ∧ w.Since w.heap.size wr) (fun i _ => n - (intOf i).toNat)
  case atStart => exact ⟨0, Nat.zero_le _, rfl, World.Since.refl _ _⟩
  case round =>
    obtain ⟨k, hk, rfl, hs⟩ := hrel
    have HT := Lib.hid hs; clear hs
    by_cases hlt : k < n
    · obtain ⟨g, off, rfl, hg, hc1⟩ := HA.out.2.2 (by omega)
      obtain ⟨g', off', rfl, hg', hc2⟩ := HC.out.2.2 (by omega)
      have hcell : wr.cell? ⟨g, off + k, none⟩ = some (.float .f32 (wd xs k)) := (HT.out.cell (a := ⟨g, off + k, none⟩) hg).trans (hc1 k hlt)
      have hcell2 : wr.cell? ⟨g', off' + k, none⟩ = some (.float .f32 (wd ys k)) := (HT.out.cell (a := ⟨g', off' + k, none⟩) hg').trans (hc2 k hlt)
      have hw1 := HA.out.2.1.at_ k
      have hw2 := HC.out.2.1.at_ k
      have he : decide (bitsO (ab .f32 (wd xs k)) = bitsO (ab .f32 (wd ys k))) = true := decide_eq_true (by rw [HS.out k hlt])
      clear hc1 hc2
      go_wp2
      have HQ : Hid (∀ v : World, Calls Try.prog 20 #[.float .f32 (wd xs k), .float .f32 (wd ys k)] v fun e v' => e = .returned (.bool true) ∧ v' = v) := Lib.hid fun v => (specSame_any _ _ _ hw1 hw2).mono fun e v' ⟨h1, h2⟩ => ⟨by rw [h1, he], h2.symm⟩
      go_quiet (first | (go_at_call 20; refine Calls.quiet_of_same (HQ.out _)))
      go_wp2
      go_roundw
      case rel => exact ⟨k + 1, by omega, by go_num, since_drewN HT.out _⟩
      case measure => simp [intOf]; omega
    · go_wp2
      go_ret
      exact ⟨rfl, HT.out⟩
namespace Fl
open Go.ChangeShapes Go.WideShapes Go.RowKit Go.WideMaps Go.WideElems
section
variable {H : Type} {enc : TypeId × Value → H} {P : Program}
theorem open_bs {W : World} {base b0 : Nat} {r : Reach} {t e : TypeId} {v : Value} {d : DataW H} {ps : List MemPlace} (ht : P.underlying t = some (.slice e)) (he : P.underlying e = some (.int .u8)) (hc : P.cellsOf e = 1)
    (hval : Value.okWide P W r b0 t v) (h : DataW.Trod enc P W base (fun _ => true) true t v d ps) :
    ∃ (A : Option Addr) (n c : Nat) (xs : List Int), v = .slice A n c ∧ Bs W W.heap.size A n xs ∧ n ≤ 9223372036854775807 := by
  obtain ⟨A, n, c, rfl⟩ := okWide_slice ht hval
  obtain ⟨fuel, hf⟩ := h
  rcases Go.Deep.open_slice ht hf with ⟨hcs, _⟩ | ⟨a, len, cap, m, k, D, Pl, hcs, _, hl, hm, hmm, _, hi⟩
  · simp only [Value.cells, Array.toList] at hcs
    injection hcs with hcs _
    injection hcs with h1 h2 h3
    subst h1; subst h2; subst h3
    exact ⟨none, 0, 0, [], rfl, ⟨rfl, (fun k => by simp [wi]), (fun h => by omega)⟩, by omega⟩
  · simp only [Value.cells, Array.toList] at hcs
    injection hcs with hcs _
    injection hcs with h1 h2 h3
    subst h1; subst h2; subst h3
    rw [if_pos rfl] at hmm
    subst hmm
    have hcell : ∀ i, i < m → ∃ b : Int, W.cell? (a.add i) = some (.int .u8 b) ∧ (Lit.int .u8 b).wf = true := by
      intro i him
      obtain ⟨cs', hcs', htr⟩ := hi i him
      rw [hc, Nat.mul_one] at hcs'
      obtain ⟨_, hlen, hat⟩ := World.cells?_some hcs'
      obtain ⟨b, hb, hw⟩ := trod_in he htr
      have h0 := hat 0 (by omega)
      rw [hb] at h0
      refine ⟨b, ?_, hw⟩
      have e : (a.add i).add 0 = a.add i := by simp [Addr.add]
      rw [e] at h0
      exact h0
    let f : Nat → Int := fun i => if h : i < m then Classical.choose (hcell i h) else 0
    have hfs : ∀ i (h : i < m), W.cell? (a.add i) = some (.int .u8 (f i)) ∧ (Lit.int .u8 (f i)).wf = true := by
      intro i h
      have := Classical.choose_spec (hcell i h)
      simp only [f, dif_pos h]
      exact this
    have hw8 : ∀ i, 0 ≤ f i ∧ f i < 256 := by
      intro i
      by_cases h : i < m
      · have h1 := (hfs i h).2
        simp only [Lit.wf, Bool.and_eq_true, decide_eq_true_eq] at h1
        have e1 : IntKind.min .u8 = 0 := by kernel_rfl
        have e2 : IntKind.max .u8 = 255 := by kernel_rfl
        rw [e1, e2] at h1
        omega
      · simp [f, h]
    refine ⟨some a, n, m, (List.range n).map f, rfl, ⟨by simp, ?_, ?_⟩, by unfold maxLen at hm; omega⟩
    · intro k
      unfold wi
      by_cases hk : k < n
      · simpa [hk] using hw8 k
      · simp [hk]
    · intro hn
      obtain ⟨g, off, spot⟩ := a
      have h0 := (hfs 0 (by omega)).1
      have hspot : spot = none := by simpa [Addr.add] using World.cell?_spot h0
      subst hspot
      refine ⟨g, off, rfl, ?_, fun k hk => ?_⟩
      · have h1 : W.cell? ⟨g, off, none⟩ = some (.int .u8 (f 0)) := by simpa [Addr.add] using h0
        rcases Nat.lt_or_ge g W.heap.size with h2 | h2
        · exact h2
        · simp [World.cell?, Array.getElem?_eq_none h2] at h1
      · have h1 := (hfs k (by omega)).1
        rw [Go.WideShapes.add_plain] at h1
        rw [h1]
        unfold wi
        simp [hk]
end
end Fl
end Go.Proofs.Ytogbejgbaenfdaa

/- Draws: the gate as a list of its own, blocks of it, and when it is open. -/
set_option linter.unusedVariables false
set_option linter.unusedSimpArgs false
namespace Go.Proofs.Ytogbejgbaenfdaa
open Fl Go.RowKit
/-- a list of numbers in a block of its own, with the places behind it -/
def PLIBo (n : Nat) (f : Nat → O) (i : Int) (b : Bool) (w : World) (e : Ending) (w' : World) : Prop :=
  ∃ (g c : Nat) (xs : List Nat), e = .returned (.tuple #[.slice (some ⟨g, 0, none⟩) n c, .int .i64 i, .bool b]) ∧ n ≤ c ∧ Gs 24 w' w.heap.size (some ⟨g, 0, none⟩) n xs ∧ Are ⟨some ⟨g, 0, none⟩, n, xs⟩ f ∧ w.Since w.heap.size w'
set_option maxHeartbeats 4000000 in
set_option maxRecDepth 100000 in
theorem implGate_own (A : Option Addr) (n c : Nat) (xs : List Nat) (t : Nat) (T : O) (hold held : Int) (w : World) (hA : Fs w w.heap.size A n xs) (hn : n ≤ 256) (ht : Hid (Fv .f32 t T)) (h1 : inB hold 0 10000 = true) (h2 : inB held 0 hold = true) :
    Calls Try.prog 29 #[.slice A n c, .float .f32 t, .int .i64 hold, .int .i64 held] w (PLIBo n (gateY (fun k => ab .f32 (wd xs k)) T hold held) (gateH (fun k => ab .f32 (wd xs k)) T hold held n) true w) := by
  have hfew : decide ((n : Int) ≤ 256) = true := decide_eq_true (by omega)
  have HA := Lib.hid hA
  have hok : okHold hold held = true := by unfold okHold; rw [h1, h2]; rfl
  have hb1 := h1; have hb2 := h2
  simp only [inB, Bool.and_eq_true, decide_eq_true_eq] at hb1 hb2
  clear hA h1 h2
  go_enter Try.func29, Try.ntmps29
  go_wp2_with (first | (go_at_call 61; refine (implSamples_b _ _ _ _ _ hfew).mono ?_; rintro e w' ⟨rfl, rfl⟩) | fail)
  generalize hW : World.alloc _ _ = W
  have S1 : Hid (w.Since w.heap.size W) := Lib.hid (by rw [← hW]; exact ((World.Since.refl _ _).alloc (Nat.le_refl _) _).alloc (by simp) _ |>.alloc (by simp; omega) _)
  have z1 : Hid (W.heap.size = w.heap.size + 1 + 1 + 1) := Lib.hid (by rw [← hW]; simp)
  have I1 : Hid (GateI w.heap.size t hold held W) := Lib.hid ⟨by rw [← hW]; simp, by rw [← hW]; simp [go_sem], by rw [← hW]; simp [go_sem], by rw [← hW]; have h9 := Go.Deep.blk_alloc_new ((w.alloc (.cells #[.float .f32 t] 24)).alloc (.cells #[.int .i64 hold] 2)) (.cells #[.int .i64 held] 2); simpa using h9⟩
  clear hW
  refine (isHold_any _ _ _ _ hok).mono ?_
  rintro e W2 ⟨rfl, hs2⟩
  have I2 : Hid (GateI w.heap.size t hold held W2) := Lib.hid (I1.out.of hs2.size fun i hi => hs2.block i (by have := z1.out; omega))
  have S2 : Hid (w.Since w.heap.size W2) := Lib.hid (since_step S1.out hs2)
  have z2 : Hid (w.heap.size + 1 + 1 + 1 ≤ W2.heap.size) := Lib.hid (by have := hs2.size; have := z1.out; omega)
  clear hs2
  go_wp2_with fail
  have hz2 := z2.out
  refine (results_any A n c xs 66 #[.pointer (some ⟨w.heap.size, 0, none⟩), .pointer (some ⟨w.heap.size + 1, 0, none⟩), .pointer (some ⟨w.heap.size + 1 + 1, 0, none⟩)] (w.heap.size + 1 + 1) (fun k W => GateI w.heap.size t hold (gateH (fun k => ab .f32 (wd xs k)) T hold held k) W) (gateY (fun k => ab .f32 (wd xs k)) T hold held) W2 ((HA.out.since S2.out).more (by omega)) (by omega) hn (fun _ _ => rfl) ?hI ?hst I2.out).mono ?_
  case hI => exact fun k W W' h1 h2 h3 h4 => h1.of h3 fun i hi => h4 i (by omega)
  case hst =>
    rintro k q W hk rfl hi hs
    have hh := gateH_in (X := fun k => ab .f32 (wd xs k)) (T := T) hb2.1 hb2.2 k
    exact gateClos_any w.heap.size _ t _ T hold _ W (Lib.hid ⟨HA.out.2.1.at_ k, rfl⟩) ht hi hh.1 (by omega)
  rintro e w5 ⟨ys, rfl, hg, ha, hi, ho⟩
  have HG := Lib.hid hg; have HAA := Lib.hid ha; have HO := Lib.hid ho; have hc3 : w5.cell? ⟨w.heap.size + 1 + 1, 0, none⟩ = some (.int .i64 (gateH (fun k => ab .f32 (wd xs k)) T hold held n)) := by simp [World.cell?, hi.he]
  clear hg ha ho hi hz2
  go_wp2_with fail
  go_region
  all_goals
    go_wp2
    go_ret3
    have hz2 := z2.out
    refine ⟨W2.heap.size, n, ys, rfl, Nat.le_refl _, HG.out.less (by omega), HAA.out, ?_⟩
    exact since_drewN (S2.out.trans (HO.out.since (by omega))) _
/-! blocks -/
theorem gateH_cut (X : Nat → O) (T : O) (hold held : Int) (a : Nat) : ∀ k, gateH (fun j => X (a + j)) T hold (gateH X T hold held a) k = gateH X T hold held (a + k)
  | 0 => rfl
  | k + 1 => by
    show (if geO (sizeO (X (a + k))) T then hold else _) = (if geO (sizeO (X (a + k))) T then hold else _)
    rw [gateH_cut X T hold held a k]
    rfl
theorem gateY_cut (X : Nat → O) (T : O) (hold held : Int) (a k : Nat) : gateY (fun j => X (a + j)) T hold (gateH X T hold held a) k = gateY X T hold held (a + k) := by
  unfold gateY
  rw [gateH_cut]
theorem gateH_like {X Y : Nat → O} {T : O} {hold held : Int} {n : Nat} (h : ∀ k, k < n → X k = Y k) : ∀ k, k ≤ n → gateH X T hold held k = gateH Y T hold held k
  | 0, _ => rfl
  | k + 1, hk => by
    unfold gateH
    rw [gateH_like h k (by omega), h k (by omega)]
theorem gateY_like {X Y : Nat → O} {T : O} {hold held : Int} {n : Nat} (h : ∀ k, k < n → X k = Y k) (k : Nat) (hk : k < n) : gateY X T hold held k = gateY Y T hold held k := by
  unfold gateY
  rw [gateH_like h k (by omega), h k hk]
/-! when it is open -/
/-- the last loud place before k -/
def lastO (X : Nat → O) (T : O) : Nat → Int
  | 0 => -1
  | k + 1 => if geO (sizeO (X k)) T then (k : Int) else lastO X T k
theorem lastO_in (X : Nat → O) (T : O) : ∀ k, -1 ≤ lastO X T k ∧ lastO X T k < (k : Int)
  | 0 => by unfold lastO; omega
  | k + 1 => by
    have := lastO_in X T k
    unfold lastO
    split <;> omega
theorem gateH_last (X : Nat → O) (T : O) (hold : Int) (h0 : 0 ≤ hold) : ∀ k, gateH X T hold 0 k = if 0 ≤ lastO X T k ∧ (k : Int) - 1 - lastO X T k ≤ hold then hold - ((k : Int) - 1 - lastO X T k) else 0
  | 0 => by unfold gateH lastO; simp
  | k + 1 => by
    have ih := gateH_last X T hold h0 k
    have hi := lastO_in X T k
    unfold gateH lastO
    by_cases h : geO (sizeO (X k)) T = true
    · rw [if_pos h, if_pos h, if_pos (by omega)]; omega
    · rw [if_neg h, if_neg h, ih]
      by_cases h1 : 0 ≤ lastO X T k ∧ (k : Int) - 1 - lastO X T k ≤ hold
      · rw [if_pos h1]
        by_cases h2 : 0 < hold - ((k : Int) - 1 - lastO X T k)
        · rw [if_pos h2, if_pos (by omega)]; omega
        · rw [if_neg h2, if_neg (by omega)]; omega
      · rw [if_neg h1, if_neg (by omega), if_neg (by omega)]
theorem gateY_open (X : Nat → O) (T : O) (hold : Int) (h0 : 0 ≤ hold) (k : Nat) : gateY X T hold 0 k = if 0 ≤ lastO X T (k + 1) ∧ (k : Int) - lastO X T (k + 1) ≤ hold then X k else some 0 := by
  have hH := gateH_last X T hold h0 k
  have hi := lastO_in X T k
  unfold gateY lastO
  by_cases h : geO (sizeO (X k)) T = true
  · rw [if_pos h, if_pos h, if_pos (by omega)]
  · rw [if_neg h, if_neg h, hH]
    by_cases h1 : 0 ≤ lastO X T k ∧ (k : Int) - lastO X T k ≤ hold
    · rw [if_pos h1, if_pos (by rw [if_pos (by omega)]; omega)]
    · rw [if_neg h1, if_neg]
      split <;> omega
/-! the greater one of a number and its opposite -/
theorem neg32 (b : Nat) (h : b < 4294967296) : Op.negFloat .f32 b = if b < 2147483648 then b + 2147483648 else b - 2147483648 := by
  have e2 := neg_mod .f32 b
  rw [sw32] at e2
  unfold Op.negFloat at e2 ⊢
  have e3 : (b ^^^ (2 ^ (FloatKind.f32.format.exponentBits + FloatKind.f32.format.fractionBits))) / 2147483648 = (b / 2147483648) ^^^ 1 := by
    rw [show (2 : Nat) ^ (FloatKind.f32.format.exponentBits + FloatKind.f32.format.fractionBits) = 2 ^ 31 by decide, show (2147483648 : Nat) = 2 ^ 31 by decide, ← Nat.shiftRight_eq_div_pow, Nat.shiftRight_xor_distrib, Nat.shiftRight_eq_div_pow, Nat.shiftRight_eq_div_pow]
  by_cases hb : b < 2147483648
  · rw [show b / 2147483648 = 0 by omega] at e3
    rw [if_pos hb]
    have : (0 ^^^ 1 : Nat) = 1 := by decide
    omega
  · rw [show b / 2147483648 = 1 by omega] at e3
    rw [if_neg hb]
    have : (1 ^^^ 1 : Nat) = 0 := by decide
    omega
theorem ge_key {x t : Nat} (hx : ab .f32 x = some x) (ht : ab .f32 t = some t) : geO (some x) (some t) = decide (key .f32 t ≤ key .f32 x) := by
  unfold geO gtO eqO ordO
  show ((FloatKind.f32.format.order x t == some .gt) || (FloatKind.f32.format.order x t == some .eq)) = _
  rw [order_key .f32 hx ht, cmp_def]
  rcases Int.lt_trichotomy (key .f32 x) (key .f32 t) with h | h | h
  · rw [if_pos h, decide_eq_false (by omega)]; rfl
  · rw [if_neg (by omega), if_pos h, decide_eq_true (by omega)]; rfl
  · rw [if_neg (by omega), if_neg (by omega), decide_eq_true (by omega)]; rfl
theorem ge_none (X : O) : geO X none = false := by cases X <;> rfl
theorem ge_size (x : Nat) (hx : x < 4294967296) (T : O) (t : Nat) (ht : Fv .f32 t T) : geO (sizeO (ab .f32 x)) T = (geO (ab .f32 x) T || geO (ab .f32 (Op.negFloat .f32 x)) T) := by
  obtain ⟨ht1, ht2⟩ := ht
  subst ht2
  have ht1' : t < 4294967296 := ht1
  have hm := neg_mod .f32 x
  rw [sw32] at hm
  rw [ab32 t]
  split
  · rw [ge_none, ge_none, ge_none]; rfl
  · next h1 =>
    rw [ab32 x, ab32 (Op.negFloat .f32 x), hm]
    by_cases h2 : 2139095040 < x % 2147483648
    · rw [if_pos h2, if_pos h2]; rfl
    · rw [if_neg h2, if_neg h2]
      have a1 : ab .f32 t = some t := by rw [ab32, if_neg h1]
      have a2 : ab .f32 x = some x := by rw [ab32, if_neg h2]
      have a3 : ab .f32 (Op.negFloat .f32 x) = some (Op.negFloat .f32 x) := by rw [ab32, hm, if_neg h2]
      have a4 : ab .f32 (sizeN x) = some (sizeN x) := by unfold sizeN; rw [ab32, Nat.mod_mod, if_neg h2]
      show geO (some (sizeN x)) (some t) = _
      rw [ge_key a4 a1, ge_key a2 a1, ge_key a3 a1]
      have hn := neg32 x hx
      have l3 : Op.negFloat .f32 x < 4294967296 := neg_lt .f32 hx
      have l4 : sizeN x < 4294967296 := sizeN_lt x
      rw [key32 _ l4, key32 _ hx, key32 _ l3, hn]
      unfold sizeN
      rw [← Bool.decide_or]
      congr 1
      by_cases hb : x < 2147483648
      · rw [if_pos (by omega), if_pos hb, if_pos hb, if_neg (by omega)]
        apply propext; constructor
        · intro h; left; omega
        · intro h; omega
      · rw [if_pos (by omega), if_neg hb, if_neg hb, if_pos (by omega)]
        apply propext; constructor
        · intro h; right; omega
        · intro h; omega
end Go.Proofs.Ytogbejgbaenfdaa

/- Voices: envelopes and notes by value: valid ones, and their ends. -/
set_option linter.unusedVariables false
set_option linter.unusedSimpArgs false
namespace Go.Proofs.Ytogbejgbaenfdaa
open Fl Go.RowKit
/-- words of an envelope, of a note, of an oscillator -/
structure EnvN where
  a : Int
  d : Int
  s : Nat
  r : Int
structure NotN where
  st : Int
  h : Int
  p : Int
  g : Nat
structure OscN where
  k : Int
  st : Nat
  ph : Nat
def EnvN.val (e : EnvN) : Value := .agg #[.int .i64 e.a, .int .i64 e.d, .float .f32 e.s, .int .i64 e.r]
def NotN.val (e : NotN) : Value := .agg #[.int .i64 e.st, .int .i64 e.h, .int .i64 e.p, .float .f32 e.g]
def OscN.val (e : OscN) : Value := .agg #[.int .i64 e.k, .float .f32 e.st, .float .f32 e.ph]
def okEnv (a d r : Int) : Bool := inB a 0 1000 && inB d 0 1000 && inB r 0 1000
def okNote (s h p : Int) : Bool := inB s 0 1000 && inB h 0 1000 && inB p 0 127
theorem allowX_any (a b x : Int) (w : World) :
    Calls Try.prog 73 #[.agg #[.int .i64 a, .int .i64 b], .int .i64 x] w fun e w' => e = .returned (.bool (inB x a b)) ∧ w.alloc (.cells #[.int .i64 a, .int .i64 b] 74) = w' := by
  by_cases h : a ≤ x
  all_goals
    go_enter Try.func73, Try.ntmps73
    go_wp2
    go_ret
    exact ⟨ret_bool (by simp [inB]; omega), rfl⟩
def lim (a b : Int) : Obj := .cells #[.int .i64 a, .int .i64 b] 74
theorem isCount_b (x : Int) (b : Bool) (w : World) (h : inB x 0 256 = b) : Calls Try.prog 72 #[.int .i64 x] w fun e w' => e = .returned (.bool b) ∧ w.alloc (lim 0 256) = w' := by
  subst h
  unfold lim
  go_enter Try.func72, Try.ntmps72
  go_wp2_with (go_at_call 73; refine (allowX_any _ _ _ _).mono ?_; rintro e w1 ⟨rfl, rfl⟩)
  go_ret
  exact ⟨rfl, rfl⟩
/-- an envelope, a note, an oscillator in a box -/
structure EnvAt (w : World) (g : Nat) (e : EnvN) : Prop where
  lt : g < w.heap.size
  a : w.cell? ⟨g, 0, none⟩ = some (.int .i64 e.a)
  d : w.cell? ⟨g, 1, none⟩ = some (.int .i64 e.d)
  s : w.cell? ⟨g, 2, none⟩ = some (.float .f32 e.s)
  r : w.cell? ⟨g, 3, none⟩ = some (.int .i64 e.r)
structure NotAt (w : World) (g : Nat) (e : NotN) : Prop where
  lt : g < w.heap.size
  st : w.cell? ⟨g, 0, none⟩ = some (.int .i64 e.st)
  h : w.cell? ⟨g, 1, none⟩ = some (.int .i64 e.h)
  p : w.cell? ⟨g, 2, none⟩ = some (.int .i64 e.p)
  g : w.cell? ⟨g, 3, none⟩ = some (.float .f32 e.g)
theorem EnvAt.since {w w' : World} {g B : Nat} {e : EnvN} (h : EnvAt w g e) (s : w.Since B w') (hg : g < B) : EnvAt w' g e :=
  ⟨Nat.lt_of_lt_of_le h.lt s.size, (s.cell (a := ⟨g, 0, none⟩) hg).trans h.a, (s.cell (a := ⟨g, 1, none⟩) hg).trans h.d, (s.cell (a := ⟨g, 2, none⟩) hg).trans h.s, (s.cell (a := ⟨g, 3, none⟩) hg).trans h.r⟩
theorem NotAt.since {w w' : World} {g B : Nat} {e : NotN} (h : NotAt w g e) (s : w.Since B w') (hg : g < B) : NotAt w' g e :=
  ⟨Nat.lt_of_lt_of_le h.lt s.size, (s.cell (a := ⟨g, 0, none⟩) hg).trans h.st, (s.cell (a := ⟨g, 1, none⟩) hg).trans h.h, (s.cell (a := ⟨g, 2, none⟩) hg).trans h.p, (s.cell (a := ⟨g, 3, none⟩) hg).trans h.g⟩
def endR (e : EnvN) (n : NotN) (b : Bool) : Int := if b then n.st + n.h + e.r else 0
end Go.Proofs.Ytogbejgbaenfdaa

/- Voices: levels of envelopes. -/
set_option linter.unusedVariables false
set_option linter.unusedSimpArgs false
namespace Go.Proofs.Ytogbejgbaenfdaa
open Fl Go.RowKit
abbrev o1 : O := some 1065353216
def heldO (a d : Int) (S : O) (n : Int) : O := if n < a then qu (some (fI n)) (some (fI a)) else if n - a < d then su o1 (mu (qu (some (fI (n - a))) (some (fI d))) (su o1 S)) else S
def lvlO (a d : Int) (S : O) (r held n : Int) : O := if n < held then heldO a d S n else if n - held < r then mu (heldO a d S held) (su o1 (qu (some (fI (n - held))) (some (fI r)))) else some 0
def inR (x lo hi : Int) : Prop := lo ≤ x ∧ x ≤ hi
theorem qu_ex (p q : Int) : ∃ r, Fv .f32 r (qu (some (fI p)) (some (fI q))) := Lo.fv_ex (op := .quo) rfl .f32 _ _ _ _ (fI_fv p).out (fI_fv q).out
theorem share_any (p q : Int) (w : World) : Calls Try.prog 88 #[.int .i64 p, .int .i64 q] w fun e w' => ∃ r m, e = .returned (.float .f32 r) ∧ Hid (Fv .f32 r (qu (some (fI p)) (some (fI q)))) ∧ w.drewN m = w' := by
  have q1 := fI_fv p
  have q2 := fI_fv q
  go_enter Try.func88, Try.ntmps88
  go_wp2_with (with_reducible_and_instances refine Lo.wpList_fo _ rfl _ _ _ _ _ rfl _ _ _ _ _ rfl rfl rfl (by assumption) (by assumption) ?_; intro rr nn hrr)
  go_ret
  exact ⟨_, _, rfl, hrr, rfl⟩
theorem share_hc (p q : Int) (w : World) (m : Nat) : Calls Try.prog 88 #[.int .i64 p, .int .i64 q] (w.drewN m) fun e w' => ∃ r n, e = .returned (.float .f32 r) ∧ Fv .f32 r (qu (some (fI p)) (some (fI q))) ∧ w' = w.drewN n :=
  (share_any p q _).mono fun e w' ⟨r, n, h1, h2, h3⟩ => ⟨r, m + n, h1, h2.out, h3.symm.trans (by simp [World.drewN, Nat.add_assoc])⟩
theorem EnvAt.drewN {w : World} {g : Nat} {e : EnvN} (h : EnvAt w g e) (m : Nat) : EnvAt (w.drewN m) g e := ⟨h.lt, h.a, h.d, h.s, h.r⟩
theorem heldO_ex {s : Nat} {S : O} (a d n : Int) (hS : Hid (Fv .f32 s S)) : ∃ r, Fv .f32 r (heldO a d S n) := by
  unfold heldO
  split
  · exact qu_ex _ _
  · split
    · obtain ⟨q1, h1⟩ := qu_ex (n - a) d
      obtain ⟨q2, h2⟩ := Lo.fv_ex (op := .sub) rfl .f32 _ _ _ _ fv1.out hS.out
      obtain ⟨q3, h3⟩ := Lo.fv_ex (op := .mul) rfl .f32 _ _ _ _ h1 h2
      exact Lo.fv_ex (op := .sub) rfl .f32 _ _ _ _ fv1.out h3
    · exact ⟨s, hS.out⟩
theorem EnvAt.range {w : World} {g : Nat} {e : EnvN} (h : EnvAt w g e) : w.rangeAt g 0 [.int .i64 e.a, .int .i64 e.d, .float .f32 e.s, .int .i64 e.r] := fun j v hj => by
  rw [Nat.zero_add]
  match j, hj with
  | 0, hj => cases hj; exact h.a
  | 1, hj => cases hj; exact h.d
  | 2, hj => cases hj; exact h.s
  | 3, hj => cases hj; exact h.r
theorem EnvAt.load3 {w : World} {g : Nat} {e : EnvN} (h : EnvAt w g e) : (loadVar 2 ⟨g, 3, none⟩).run Try.prog w = .ok (.int .i64 e.r) w := by
  have h3 := h.r
  simp [loadVar, go_sem, h3]
theorem shareG_hc (W : World) (p q : Int) (us : List Value) (hu : Lo.VRs [.int .i64 p, .int .i64 q] us) (v : World) (hv : ∃ hs d, v = Lo.mkW W hs d) :
    Calls Try.prog 88 us.toArray v fun e' v2 => ∃ r, e' = .returned (.float .f32 r) ∧ Fv .f32 r (qu (some (fI p)) (some (fI q))) ∧ ∃ hs d, v2 = Lo.mkW W hs d := by
  obtain ⟨u0, _, rfl, e0, u1, _, rfl, e1, rfl⟩ := hu
  rw [Lo.VR_int e0, Lo.VR_int e1]
  exact (share_any p q v).mono fun e' w' ⟨r, m, h1, h2, h3⟩ => ⟨r, h1, h2.out, by subst h3; exact Lo.drewG m hv⟩
def PVB (F : O) (b : Bool) (w : World) (e : Ending) (w' : World) : Prop := ∃ r, e = .returned (.tuple #[.float .f32 r, .bool b]) ∧ Hid (Fv .f32 r F) ∧ w.Since w.heap.size w'
def okLvl (e : EnvN) (held n : Int) : Bool := okEnv e.a e.d e.r && inB held 0 4000 && inB n 0 4000
def lvlR (e : EnvN) (held n : Int) (b : Bool) : O := if b then lvlO e.a e.d (ab .f32 e.s) e.r held n else some 0
theorem inR_of {x lo hi : Int} (h : inB x lo hi = true) : inR x lo hi := by simpa [inB, inR] using h
theorem env_in {e : EnvN} (h : okEnv e.a e.d e.r = true) : inR e.a 0 1000 ∧ inR e.d 0 1000 ∧ inR e.r 0 1000 := by
  simp only [okEnv, Bool.and_eq_true] at h
  exact ⟨inR_of h.1.1, inR_of h.1.2, inR_of h.2⟩
theorem allowB (a b x : Int) (bb : Bool) (w : World) (h : inB x a b = bb) :
    Calls Try.prog 73 #[.agg #[.int .i64 a, .int .i64 b], .int .i64 x] w fun e w' => e = .returned (.bool bb) ∧ w.alloc (.cells #[.int .i64 a, .int .i64 b] 74) = w' := by subst h; exact allowX_any a b x w
end Go.Proofs.Ytogbejgbaenfdaa

/- Voices: recordings. -/
set_option linter.unusedVariables false
set_option linter.unusedSimpArgs false
namespace Go.Proofs.Ytogbejgbaenfdaa
open Fl Go.RowKit
def btO (a b : O) (r : Nat) : O := if r = 0 then a else ad a (mu (su b a) (qu (some (fI r)) (some (fI 65536))))
def smp (n : Nat) (X : Nat → O) (i : Nat) : O := if i < n then X i else some 0
theorem fI_65536 : fI 65536 = 1199570944 := by decide +kernel
theorem fv65536 : Hid (Fv .f32 1199570944 (some (fI 65536))) := by rw [fI_65536]; exact fvc (by decide) (by decide)
def okPlay (n : Nat) (f s c : Int) : Bool := decide (1 ≤ n) && decide (n ≤ 256) && inB f 0 16777216 && inB s 0 655360 && inB c 0 256
/-- the places of a player -/
def plc (T : Nat → Nat) (f0 st : Nat) : Nat → Nat
  | 0 => T f0
  | k + 1 => T (plc T f0 st k + st)
def plY (S : Nat → O) (P : Nat → Nat) (k : Nat) : O := btO (S (P k / 65536)) (S (P k / 65536 + 1)) (P k % 65536)
theorem plc_le (f0 st : Nat) (h1 : f0 ≤ 16777216) (h2 : st ≤ 655360) : ∀ k, k ≤ 256 → plc id f0 st k ≤ 16777216 + 655360 * k
  | 0, _ => by simpa [plc] using h1
  | k + 1, hk => by
    have := plc_le f0 st h1 h2 k (by omega)
    show plc id f0 st k + st ≤ _
    omega
end Go.Proofs.Ytogbejgbaenfdaa

/- Voices: recordings, the program's. -/
set_option linter.unusedVariables false
set_option linter.unusedSimpArgs false
namespace Go.Proofs.Ytogbejgbaenfdaa
open Fl Go.RowKit
set_option maxHeartbeats 2000000 in
theorem implBetween_any (a b r : Nat) (A B : O) (w : World) (ha : Hid (Fv .f32 a A)) (hb : Hid (Fv .f32 b B)) (hr : r < 65536) :
    Calls Try.prog 87 #[.float .f32 a, .float .f32 b, .int .i64 (r : Int)] w fun e' w' => ∃ q m, e' = .returned (.float .f32 q) ∧ Hid (Fv .f32 q (btO A B r)) ∧ w.drewN m = w' := by
  unfold btO
  by_cases h : r = 0
  · rw [if_pos h]
    subst h
    go_enter Try.func87, Try.ntmps87
    go_wp2
    go_ret
    first | exact ⟨_, 0, rfl, ha, rfl⟩ | exact ⟨_, rfl, ha, 0, rfl⟩
  · rw [if_neg h]
    go_enter Try.func87, Try.ntmps87
    go_wp2_with (first | (with_reducible_and_instances refine Lo.wpList_fo _ rfl _ _ _ _ _ rfl _ _ _ _ _ rfl rfl rfl (by assumption) (by assumption) ?_; intro rr nn hrr) | (go_at_call 88; refine (share_any _ _ _).mono ?_; rintro e w1 ⟨x1, m1, rfl, hx1, rfl⟩))
    go_ret
    exact ⟨_, _, rfl, hrr, rfl⟩
set_option maxHeartbeats 4000000 in
set_option maxRecDepth 100000 in
theorem play_any (Fw Fs : FuncId) (capsw capss : Array Value) (T : Nat → Nat) (S : Nat → O) (f s c : Nat) (w : World) (hc : c ≤ 256) (hf : f ≤ 20000000) (hs2 : s ≤ 655360)
    (hentw : ∀ args w, (callFunc Fw args).run Try.prog w = .ok (.enter Fw args) w) (hents : ∀ args w, (callFunc Fs args).run Try.prog w = .ok (.enter Fs args) w)
    (hbd : ∀ k, k ≤ c → plc T f s k ≤ 190000000)
    (hw : ∀ (i : Int) (p : Nat) (W : World), p ≤ 200000000 → i = (p : Int) → w.Since w.heap.size W → Calls Try.prog Fw (#[.int .i64 i] ++ capsw) W fun e W' => e = .returned (.int .i64 ((T p : Nat) : Int)) ∧ ∃ m, W.drewN m = W')
    (hs : ∀ k i q W, k < c → (q = plc T f s k / 65536 ∨ q = plc T f s k / 65536 + 1) → i = (q : Int) → w.Since w.heap.size W → Calls Try.prog Fs (#[.int .i64 i] ++ capss) W fun e W' => ∃ r, e = .returned (.float .f32 r) ∧ Hid (Fv .f32 r (S q)) ∧ W = W') :
    Calls Try.prog 77 #[.int .i64 (f : Int), .int .i64 (s : Int), .int .i64 (c : Int), .func (.func Fw) #[] capsw, .func (.func Fs) #[] capss] w fun e w' => ∃ ys, e = .returned (.tuple #[.slice (some ⟨w.heap.size, 0, none⟩) c c, .int .i64 ((plc T f s c : Nat) : Int)]) ∧ Gs 24 w' w.heap.size (some ⟨w.heap.size, 0, none⟩) c ys ∧ Are' c ys (plY S (plc T f s)) ∧ w.Since w.heap.size w' := by
  have hmk := fun W => run_make_row' (P := Try.prog) 33 24 (.float .f32 0) 4 Try.underlying33 Try.infoF rfl .i64 .i64 c (by omega) (by omega) W
  have HW := Lib.hid hw; have HS := Lib.hid hs; have HB := Lib.hid hbd
  clear hw hs hbd
  go_enter Try.func77, Try.ntmps77
  go_wp2_with fail
  refine (HW.out _ f _ (by omega) rfl ((World.Since.refl _ _).alloc (Nat.le_refl _) _)).mono ?_
  rintro e w1 ⟨rfl, m0, rfl⟩
  have e0 : Hid (plc T f s 0 = T f) := Lib.hid rfl
  go_wp2
  go_loopw [0, 13, 14, 22] (fun pv _ _ i wr => ∃ (k : Nat) (r : Nat → Nat), k ≤ c ∧ i = .int .i64 k ∧ pv = .int .i64 ((plc T f s k : Nat) : Int) ∧ GCells wr w.heap.size c (partial_ k r) ∧ (∀ j, j < k → Hid (Fv .f32 (r j) (plY S (plc T f s) j))) ∧ w.Since w.heap.size wr) (fun _ _ _ i _ => c - (intOf i).toNat)
  case atStart =>
    have hr := (World.rowIs_made w (.float .f32 0) c 24)
    obtain ⟨cs, hb, _, hc2⟩ := hr
    exact ⟨0, fun _ => 0, Nat.zero_le _, rfl, rfl, ⟨cs, hb, fun j hj => hc2 j hj⟩, fun j hj => by omega, since_drewN ((World.Since.refl _ _).alloc (Nat.le_refl _) _) _⟩
  case round =>
    obtain ⟨k, r, hk, rfl, rfl, hcs, hr, hon⟩ := hrel
    have HC := Lib.hid hcs; have HR := Lib.hid hr; have HON := Lib.hid hon
    have hsz : w.heap.size < wr.heap.size := hcs.lt
    have hp := HB.out k hk
    have eY : Hid (plY S (plc T f s) k = btO (S (plc T f s k / 65536)) (S (plc T f s k / 65536 + 1)) (plc T f s k % 65536)) := Lib.hid rfl
    have eP : Hid (plc T f s (k + 1) = T (plc T f s k + s)) := Lib.hid rfl
    have HK := Lib.hid (HS.out k)
    clear hcs hr hon e0
    generalize hP : plc T f s k = p at *
    by_cases hlt : k < c
    · have e2 : ((p : Int).tdiv 65536) = ((p / 65536 : Nat) : Int) := by rw [Int.tdiv_eq_ediv_of_nonneg (by omega)]; omega
      have e3 : ((p : Int).tmod 65536) = ((p % 65536 : Nat) : Int) := by rw [Int.tmod_eq_emod_of_nonneg (by omega)]; omega
      obtain ⟨q, hq⟩ : ∃ q, p / 65536 = q := ⟨_, rfl⟩
      obtain ⟨t, ht⟩ : ∃ t, p % 65536 = t := ⟨_, rfl⟩
      rw [hq] at e2 eY HK
      rw [ht] at e3 eY
      have hq2 : q ≤ 1000000 := by omega
      have ht2 : t < 65536 := by omega
      clear hq ht hP
      go_wp2_with fail
      refine (HK.out (q : Int) q _ hlt (.inl rfl) rfl HON.out).mono ?_
      rintro e w2 ⟨r1, rfl, hr1, rfl⟩
      go_wp2_with fail
      refine (HK.out ((q : Int) + 1) (q + 1) _ hlt (.inr rfl) (by omega) HON.out).mono ?_
      rintro e w2 ⟨r2, rfl, hr2, rfl⟩
      go_wp2_with fail
      go_at_call 87
      refine (implBetween_any _ _ t _ _ _ hr1 hr2 ht2).mono ?_
      rintro e w2 ⟨r3, m3, rfl, hr3, rfl⟩
      rw [← eY.out] at hr3
      have hc2 : wr.cell? ⟨w.heap.size, k, none⟩ = some (partial_ k r k) := HC.out.cell hlt
      have hf2 : wr.frozen? ⟨w.heap.size, k, none⟩ = false := HC.out.free _
      go_wp2_with fail
      refine (HW.out _ (p + s) _ (by omega) (by omega) (since_drewN (HON.out.setCell (Nat.le_refl _) _) _)).mono ?_
      rintro e w2 ⟨rfl, m4, rfl⟩
      go_wp2
      go_roundw
      case rel =>
        refine ⟨k + 1, fun j => if j = k then r3 else r j, by omega, by go_num, by rw [eP.out], (HC.out.set k _).congr (fun j hj => ?_), fun j hj => ?_, since_drewN (HON.out.setCell (Nat.le_refl _) _) _⟩
        · unfold partial_
          dsimp only
          by_cases e : j = k
          · rw [if_pos e, if_pos (by omega), if_pos e]
          · rw [if_neg e, if_neg e]
            by_cases e2 : j < k
            · rw [if_pos e2, if_pos (by omega)]
            · rw [if_neg e2, if_neg (by omega)]
        · show Hid (Fv .f32 (if j = k then r3 else r j) (plY S (plc T f s) j))
          by_cases e : j = k
          · subst e; rw [if_pos rfl]; exact hr3
          · rw [if_neg e]; exact HR.out j (by omega)
      case measure => simp [intOf]; omega
    · obtain rfl : k = c := by omega
      subst hP
      clear eY eP HK
      go_wp2
      go_ret2
      refine ⟨lst k r, rfl, ⟨lst_len _ _, fun y hy => ?_, fun _ => ?_⟩, fun i hi => by rw [lst_wd hi]; exact (HR.out i hi).out.2, HON.out⟩
      · obtain ⟨i, hi, rfl⟩ := List.mem_map.1 hy
        exact (HR.out i (List.mem_range.1 hi)).out.1
      · obtain ⟨cs, hb, hc⟩ := HC.out
        refine ⟨_, cs, rfl, Nat.le_refl _, hb, fun j hj => ?_⟩
        rw [hc j hj]; unfold partial_ fv; rw [if_pos hj, lst_wd hj]
set_option maxHeartbeats 4000000 in
theorem isPlay_b (A : Option Addr) (n cc : Nat) (f s c : Int) (b : Bool) (w : World) (h : okPlay n f s c = b) :
    Calls Try.prog 75 #[.slice A n cc, .int .i64 f, .int .i64 s, .int .i64 c] w fun e w' => e = .returned (.bool b) ∧ w.Since w.heap.size w' := by
  subst h
  unfold okPlay
  have h0 : (decide ((0 : Int) < (n : Int))) = decide (1 ≤ n) := by simp; omega
  cases h1 : decide (1 ≤ n) <;> cases h2 : decide (n ≤ 256) <;> cases h3 : inB f 0 16777216 <;> cases h4 : inB s 0 655360 <;> cases h5 : inB c 0 256
  all_goals
    rw [h1] at h0
    have h2' : decide ((n : Int) ≤ 256) = decide (n ≤ 256) := by simp; omega
    rw [h2] at h2'
    first | (have hp : 0 < n := of_decide_eq_true h1) | (obtain rfl : n = 0 := by have := of_decide_eq_false h1; omega)
    clear h1 h2
    go_enter Try.func75, Try.ntmps75
    go_wp2_with (first | (go_at_call 61; refine (implSamples_b _ _ _ _ _ h2').mono ?_; rintro e w' ⟨rfl, rfl⟩) | (go_at_call 73; with_reducible refine (allowB 0 16777216 f _ _ h3).mono ?_; rintro e w' ⟨rfl, rfl⟩) | (go_at_call 73; with_reducible refine (allowB 0 655360 s _ _ h4).mono ?_; rintro e w' ⟨rfl, rfl⟩) | (go_at_call 72; refine (isCount_b c _ _ h5).mono ?_; rintro e w' ⟨rfl, rfl⟩))
    go_ret
    exact ⟨rfl, by (try unfold lim); (repeat (first | (with_reducible refine Fl.sinDrew ?_) | (with_reducible refine World.Since.drew ?_) | (with_reducible refine Fl.sinSet ?_ ?_; rotate_left) | (with_reducible refine Fl.sinAlloc ?_ ?_; rotate_left) | with_reducible exact World.Since.refl _ _ | with_reducible assumption | (with_reducible refine Fl.sinStep (by with_reducible assumption) ?_))); all_goals (first | omega | (simp; done) | (simp; omega) | (simp [go_sem]; done) | (simp [go_sem]; omega))⟩
end Go.Proofs.Ytogbejgbaenfdaa

/- Voices: PlayRecording of both sides. -/
set_option linter.unusedVariables false
set_option linter.unusedSimpArgs false
namespace Go.Proofs.Ytogbejgbaenfdaa
open Fl Go.RowKit
theorem anyClos (i : Int) (p : Nat) (W : World) (h : i = (p : Int)) : Calls Try.prog 76 (#[.int .i64 i] ++ #[]) W fun e W' => e = .returned (.int .i64 ((id p : Nat) : Int)) ∧ ∃ m, W.drewN m = W' := by
  subst h
  show Calls Try.prog 76 #[.int .i64 (p : Int)] W _
  go_enter Try.func76, Try.ntmps76
  go_wp2
  go_ret
  exact ⟨rfl, 0, rfl⟩
theorem recClos (A : Option Addr) (n cc g : Nat) (xs : List Nat) (i : Int) (q : Nat) (W : World) (hi : i = (q : Int)) (hA : Fs W W.heap.size A n xs) (hc : W.cell? ⟨g, 0, none⟩ = some (.slice A n cc)) (hq : q ≤ 2000000) (hn : n ≤ 256) :
    Calls Try.prog 78 (#[.int .i64 i] ++ #[.pointer (some ⟨g, 0, none⟩)]) W fun e W' => ∃ r, e = .returned (.float .f32 r) ∧ Hid (Fv .f32 r (smp n (fun k => ab .f32 (wd xs k)) q)) ∧ W = W' := by
  subst hi
  show Calls Try.prog 78 #[.int .i64 (q : Int), .pointer (some ⟨g, 0, none⟩)] W _
  unfold smp
  by_cases h : q < n
  · rw [if_pos h]
    obtain ⟨gg, off, rfl, hg, hcc⟩ := hA.2.2 (by omega)
    have hcell := hcc q h
    have hx : Hid (Fv .f32 (wd xs q) (ab .f32 (wd xs q))) := Lib.hid ⟨hA.2.1.at_ q, rfl⟩
    clear hcc hA
    go_enter Try.func78, Try.ntmps78
    go_wp2
    go_ret
    exact ⟨_, rfl, hx, rfl⟩
  · rw [if_neg h]
    clear hA
    go_enter Try.func78, Try.ntmps78
    go_wp2
    go_ret
    exact ⟨_, rfl, fv0, rfl⟩
set_option maxHeartbeats 4000000 in
set_option maxRecDepth 100000 in
theorem implRec_ok (A : Option Addr) (n cc : Nat) (xs : List Nat) (f s c : Nat) (w : World) (hA : Fs w w.heap.size A n xs) (h : okPlay n f s c = true) :
    Calls Try.prog 38 #[.slice A n cc, .int .i64 f, .int .i64 s, .int .i64 c] w (PLIB c (plY (smp n (fun k => ab .f32 (wd xs k))) (plc id f s)) (plc id f s c : Nat) true w) := by
  have hb := h
  simp only [okPlay, inB, Bool.and_eq_true, decide_eq_true_eq] at hb
  have HA := Lib.hid hA
  clear hA
  obtain ⟨W, hW⟩ : ∃ W, W = w.alloc (.cells #[.slice A n cc] 33) := ⟨_, rfl⟩
  have S0 : Hid (w.Since w.heap.size W) := Lib.hid (by rw [hW]; exact (World.Since.refl _ _).alloc (Nat.le_refl _) _)
  have z0 : w.heap.size < W.heap.size := by rw [hW]; simp
  have C0 : Hid (W.cell? ⟨w.heap.size, 0, none⟩ = some (.slice A n cc)) := Lib.hid (by rw [hW]; simp [go_sem])
  go_enter Try.func38, Try.ntmps38
  go_wp2_with fail
  rw [← hW]; clear hW
  go_at_call 75
  refine (isPlay_b _ _ _ _ _ _ _ _ h).mono ?_
  rintro e w1 ⟨rfl, hs1⟩
  have HS1 := Lib.hid hs1; clear hs1
  go_wp2_with fail
  refine (play_any 76 78 #[] #[.pointer (some ⟨w.heap.size, 0, none⟩)] id (smp n (fun k => ab .f32 (wd xs k))) f s c w1 (by omega) (by omega) (by omega) (fun _ _ => rfl) (fun _ _ => rfl)
    (fun k hk => by have := plc_le f s (by omega) (by omega) k (by omega); omega) (fun i p W' _ hi _ => anyClos i p W' hi) ?_).mono ?_
  · intro k i q W' hk hq hi hs'
    have hp := plc_le f s (by omega) (by omega) k (by omega)
    have hS := since_step HS1.out hs'
    exact recClos A n cc w.heap.size xs i q W' hi (HA.out.now (S0.out.trans (since_mono hS (by omega)))) ((hS.cell (a := ⟨w.heap.size, 0, none⟩) z0).trans C0.out) (by omega) (by omega)
  rintro e w2 ⟨ys, rfl, hg, ha, hs2⟩
  have HG := Lib.hid hg; have HAA := Lib.hid ha; have HS2 := Lib.hid hs2; clear hg ha hs2
  have z1 := HS1.out.size
  go_wp2
  go_ret3
  exact ⟨⟨some ⟨w1.heap.size, 0, none⟩, c, ys⟩, c, rfl, rfl, HG.out.less (by omega), HAA.out, S0.out.trans (since_mono (since_step HS1.out HS2.out) (by omega))⟩
theorem implRec_no (A : Option Addr) (n cc : Nat) (f s c : Int) (w : World) (h : okPlay n f s c = false) (F : Nat → O) : Calls Try.prog 38 #[.slice A n cc, .int .i64 f, .int .i64 s, .int .i64 c] w (PLIB 0 F 0 false w) := by
  go_enter Try.func38, Try.ntmps38
  go_wp2_with (first | (go_at_call 75; refine (isPlay_b _ _ _ _ _ _ _ _ h).mono ?_; rintro e w1 ⟨rfl, hs1⟩; have HS1 := Lib.hid hs1; clear hs1))
  go_ret3
  exact PLIB.none_ (World.Since.trans ((World.Since.refl _ _).alloc (Nat.le_refl _) _) (since_mono HS1.out (by simp))) _
end Go.Proofs.Ytogbejgbaenfdaa

/- Voices: PlayLoop of both sides. -/
set_option linter.unusedVariables false
set_option linter.unusedSimpArgs false
namespace Go.Proofs.Ytogbejgbaenfdaa
open Fl Go.RowKit
def SameV (a b : World) : Prop := a = b
/-- a place brought back into a loop that begins at F and is L long -/
def backN (F L p : Nat) : Nat := if p < F + L then p else F + (p - F) % L
theorem backN_lt {F L p : Nat} (hL : 0 < L) : backN F L p < F + L := by
  unfold backN
  split
  · assumption
  · have := Nat.mod_lt (p - F) hL; omega
theorem backN_sub {F L p : Nat} (hL : 0 < L) (h : F + L ≤ p) : backN F L (p - L) = backN F L p := by
  unfold backN
  rw [if_neg (show ¬ p < F + L by omega)]
  by_cases h2 : p - L < F + L
  · rw [if_pos h2, Nat.mod_eq_sub_mod (by omega), Nat.mod_eq_of_lt (by omega)]; omega
  · rw [if_neg h2, Nat.mod_eq_sub_mod (show p - F ≥ L by omega), show p - L - F = p - F - L by omega]
theorem backN_in {F L p : Nat} (h : p < F + L) : backN F L p = p := if_pos h
def lpS (be fi : Nat) (X : Nat → O) (i : Nat) : O := if i = be then X fi else X i
theorem plc_loop {F L f s k : Nat} (hL : 0 < L) : plc (backN F L) f s k < F + L := by
  cases k
  · exact backN_lt hL
  · exact backN_lt hL
theorem btO_ex {a b : Nat} {A B : O} (r : Nat) (ha : Hid (Fv .f32 a A)) (hb : Hid (Fv .f32 b B)) : ∃ q, Fv .f32 q (btO A B r) := by
  unfold btO
  split
  · exact ⟨a, ha.out⟩
  · obtain ⟨q1, h1⟩ := Lo.fv_ex (op := .sub) rfl .f32 _ _ _ _ hb.out ha.out
    obtain ⟨q2, h2⟩ := qu_ex r 65536
    obtain ⟨q3, h3⟩ := Lo.fv_ex (op := .mul) rfl .f32 _ _ _ _ h1 h2
    exact Lo.fv_ex (op := .add) rfl .f32 _ _ _ _ ha.out h3
/-- what a loop asks of its numbers -/
def okLoop (n : Nat) (fi be f s c : Int) : Bool := okPlay n f s c && inB be 1 n && inB fi 0 (be - 1)
end Go.Proofs.Ytogbejgbaenfdaa

/- Voices: PlayLoop, the program's. -/
set_option linter.unusedVariables false
set_option linter.unusedSimpArgs false
namespace Go.Proofs.Ytogbejgbaenfdaa
open Fl Go.RowKit
theorem loopIn (gE gS F E L : Nat) (i : Int) (p : Nat) (W : World) (hi : i = (p : Int)) (hE : E = F + L) (hL : 0 < L) (hp : p ≤ 200000000) (hF : F ≤ 20000000) (hLL : L ≤ 20000000) (c0 : W.cell? ⟨gE, 0, none⟩ = some (.int .i64 (E : Int))) (c1 : W.cell? ⟨gS, 0, none⟩ = some (.int .i64 (F : Int))) :
    Calls Try.prog 79 (#[.int .i64 i] ++ #[.pointer (some ⟨gE, 0, none⟩), .pointer (some ⟨gS, 0, none⟩)]) W fun e W' => e = .returned (.int .i64 ((backN F L p : Nat) : Int)) ∧ ∃ m, W.drewN m = W' := by
  subst hi
  show Calls Try.prog 79 #[.int .i64 (p : Int), .pointer (some ⟨gE, 0, none⟩), .pointer (some ⟨gS, 0, none⟩)] W _
  by_cases h : p < E
  · have hb : backN F L p = p := backN_in (by omega)
    rw [hb]
    go_enter Try.func79, Try.ntmps79
    go_wp2
    go_ret
    exact ⟨rfl, 0, rfl⟩
  · have hb : backN F L p = F + (p - F) % L := by unfold backN; rw [if_neg (by omega)]
    have e0 : (E : Int) - (F : Int) = (L : Int) := by omega
    have e1 : (p : Int) - (F : Int) = ((p - F : Nat) : Int) := by omega
    have e2 : (((p - F : Nat) : Int).tmod (L : Int)) = (((p - F) % L : Nat) : Int) := by rw [Int.tmod_eq_emod_of_nonneg (by omega)]; rfl
    have h3 : ((p - F) % L) < L := Nat.mod_lt _ hL
    rw [hb]
    obtain ⟨q, hq⟩ : ∃ q, (p - F) % L = q := ⟨_, rfl⟩
    obtain ⟨t, ht⟩ : ∃ t, p - F = t := ⟨_, rfl⟩
    rw [hq] at e2 h3 ⊢
    rw [ht] at e1 e2
    clear hb hq ht hE
    go_enter Try.func79, Try.ntmps79
    go_wp2_with fail
    refine Lo.wp_loose_all [] (by kernel_rfl) (by kernel_rfl) ?_
    repeat (first
      | (refine Lo.wpL_move rfl _ (.inl rfl) (by decide) ?_; simp only [Act.put, List.setIfInBounds_toArray, List.set_cons_succ, List.set_cons_zero])
      | (refine Lo.wpL_move rfl _ (.inr rfl) (by decide) ?_; simp only [Act.put, List.setIfInBounds_toArray, List.set_cons_succ, List.set_cons_zero])
      | (refine Lo.wpL_fop rfl _ _ _ _ rfl rfl (by decide) _ _ _ _ _ rfl rfl (by assumption) (by assumption) ?_; intro rr hrr; simp only [Act.put, List.setIfInBounds_toArray, List.set_cons_succ, List.set_cons_zero])
      | (refine Lo.wpL_wide rfl _ _ _ rfl (by decide) _ _ rfl (by kernel_rfl) (by kernel_rfl) (by assumption) ?_; intro rr hrr; simp only [Act.put, List.setIfInBounds_toArray, List.set_cons_succ, List.set_cons_zero])
      | (refine Lo.wpL_quiet rfl (by decide) (fun K hK => ?_); go_big_quiet_op; (refine hK _ ?_; clear hK K)))
    refine Lo.wpL_nil ?_
    refine Lo.after_nil ?_; intro nq
    go_wp2
    go_ret
    exact ⟨by push_cast; rfl, _, rfl⟩
theorem loopAt (A : Option Addr) (n cc g0 g1 g2 : Nat) (xs : List Nat) (fi be : Nat) (i : Int) (q : Nat) (W : World) (hi : i = (q : Int)) (hA : Fs W W.heap.size A n xs) (hbe : be ≤ n) (hfi : fi < be) (hq : q ≤ be) (hn : n ≤ 256)
    (c0 : W.cell? ⟨g0, 0, none⟩ = some (.int .i64 (be : Int))) (c1 : W.cell? ⟨g1, 0, none⟩ = some (.slice A n cc)) (c2 : W.cell? ⟨g2, 0, none⟩ = some (.int .i64 (fi : Int))) :
    Calls Try.prog 80 (#[.int .i64 i] ++ #[.pointer (some ⟨g0, 0, none⟩), .pointer (some ⟨g1, 0, none⟩), .pointer (some ⟨g2, 0, none⟩)]) W fun e W' => ∃ r, e = .returned (.float .f32 r) ∧ Hid (Fv .f32 r (lpS be fi (fun k => ab .f32 (wd xs k)) q)) ∧ W = W' := by
  subst hi
  show Calls Try.prog 80 #[.int .i64 (q : Int), .pointer (some ⟨g0, 0, none⟩), .pointer (some ⟨g1, 0, none⟩), .pointer (some ⟨g2, 0, none⟩)] W _
  obtain ⟨gg, off, rfl, hg, hcc⟩ := hA.2.2 (by omega)
  unfold lpS
  by_cases h : q = be
  · rw [if_pos h]
    have hcell := hcc fi (by omega)
    have hx : Hid (Fv .f32 (wd xs fi) (ab .f32 (wd xs fi))) := Lib.hid ⟨hA.2.1.at_ fi, rfl⟩
    clear hcc hA
    subst h
    go_enter Try.func80, Try.ntmps80
    go_wp2
    go_ret
    exact ⟨_, rfl, hx, rfl⟩
  · rw [if_neg h]
    have hcell := hcc q (by omega)
    have hx : Hid (Fv .f32 (wd xs q) (ab .f32 (wd xs q))) := Lib.hid ⟨hA.2.1.at_ q, rfl⟩
    have hne : ¬ (q : Int) = (be : Int) := by omega
    clear hcc hA
    go_enter Try.func80, Try.ntmps80
    go_wp2
    go_ret
    exact ⟨_, rfl, hx, rfl⟩
set_option maxHeartbeats 8000000 in
set_option maxRecDepth 100000 in
theorem implLoop_ok (A : Option Addr) (n cc : Nat) (xs : List Nat) (fi be f s c F L : Nat) (w : World) (hA : Fs w w.heap.size A n xs) (h : okPlay n f s c = true) (h1 : inB be 1 n = true) (h2 : inB fi 0 ((be : Int) - 1) = true) (hF : F = 65536 * fi) (hL : L = 65536 * (be - fi)) :
    Calls Try.prog 40 #[.slice A n cc, .int .i64 fi, .int .i64 be, .int .i64 f, .int .i64 s, .int .i64 c] w (PLIB c (plY (lpS be fi (fun k => ab .f32 (wd xs k))) (plc (backN F L) f s)) (plc (backN F L) f s c : Nat) true w) := by
  have hb := h
  simp only [okPlay, inB, Bool.and_eq_true, decide_eq_true_eq] at hb h1 h2
  have hL0 : 0 < L := by omega
  have hE : ∃ E, E = F + L ∧ E = 65536 * be := ⟨F + L, rfl, by omega⟩
  obtain ⟨E, hE1, hE2⟩ := hE
  have hEi : (be : Int) * 65536 = (E : Int) := by omega
  have hFi : (fi : Int) * 65536 = (F : Int) := by omega
  have HA := Lib.hid hA
  clear hA
  obtain ⟨W, hW⟩ : ∃ W, W = ((w.alloc (.cells #[.slice A n cc] 33)).alloc (.cells #[.int .i64 fi] 2)).alloc (.cells #[.int .i64 be] 2) := ⟨_, rfl⟩
  have S0 : Hid (w.Since w.heap.size W) := Lib.hid (by rw [hW]; exact (((World.Since.refl _ _).alloc (Nat.le_refl _) _).alloc (by simp) _).alloc (by simp; omega) _)
  have z0 : w.heap.size + 1 + 1 < W.heap.size := by rw [hW]; simp
  have C0 : Hid (W.cell? ⟨w.heap.size, 0, none⟩ = some (.slice A n cc)) := Lib.hid (by rw [hW]; simp [go_sem])
  have C1 : Hid (W.cell? ⟨w.heap.size + 1, 0, none⟩ = some (.int .i64 fi)) := Lib.hid (by rw [hW]; simp [go_sem])
  have C2 : Hid (W.cell? ⟨w.heap.size + 1 + 1, 0, none⟩ = some (.int .i64 be)) := Lib.hid (by rw [hW]; simp [go_sem])
  have c0 := C0.out; have c1 := C1.out; have c2 := C2.out
  have HE2 := Lib.hid hE2; have HF := Lib.hid hF; have HL := Lib.hid hL
  clear hE2 hF hL
  go_enter Try.func40, Try.ntmps40
  go_wp2_with fail
  rw [← hW]; clear hW c0 c1 c2
  go_at_call 75
  refine (isPlay_b _ _ _ _ _ _ _ _ h).mono ?_
  rintro e w1 ⟨rfl, hs1⟩
  have z1 := hs1.size
  have y0 : w.heap.size < w1.heap.size := by omega
  have y1 : w.heap.size + 1 < w1.heap.size := by omega
  have y2 : w.heap.size + 1 + 1 < w1.heap.size := by omega
  have d0 := (hs1.cell (a := ⟨w.heap.size, 0, none⟩) (show w.heap.size < W.heap.size by omega)).trans C0.out
  have d1 := (hs1.cell (a := ⟨w.heap.size + 1, 0, none⟩) (show w.heap.size + 1 < W.heap.size by omega)).trans C1.out
  have d2 := (hs1.cell (a := ⟨w.heap.size + 1 + 1, 0, none⟩) z0).trans C2.out
  have HS1 := Lib.hid hs1; clear hs1
  have HP : Hid (∀ (w5 : World) (gE gS : Nat), w1.Since w1.heap.size w5 → gE < w5.heap.size → gS < w5.heap.size → w5.cell? ⟨gE, 0, none⟩ = some (.int .i64 (E : Int)) → w5.cell? ⟨gS, 0, none⟩ = some (.int .i64 (F : Int)) → _) := Lib.hid (fun w5 gE gS s5 hgE hgS hcE hcS =>
    play_any 79 80 #[.pointer (some ⟨gE, 0, none⟩), .pointer (some ⟨gS, 0, none⟩)] #[.pointer (some ⟨w.heap.size + 1 + 1, 0, none⟩), .pointer (some ⟨w.heap.size, 0, none⟩), .pointer (some ⟨w.heap.size + 1, 0, none⟩)] (backN F L) (lpS be fi (fun k => ab .f32 (wd xs k))) f s c w5 (by omega) (by omega) (by omega) (fun _ _ => rfl) (fun _ _ => rfl)
      (fun k _ => by have := plc_loop (F := F) (L := L) (f := f) (s := s) (k := k) hL0; have := HE2.out; omega)
      (fun i p W' hp hi hs' => loopIn gE gS F E L i p W' hi hE1 hL0 hp (by have := HE2.out; omega) (by have := HE2.out; omega) ((hs'.cell (a := ⟨gE, 0, none⟩) hgE).trans hcE) ((hs'.cell (a := ⟨gS, 0, none⟩) hgS).trans hcS))
      (fun k i q W' hk hq hi hs' => by
        have hlt := plc_loop (F := F) (L := L) (f := f) (s := s) (k := k) hL0
        have hE3 := HE2.out
        have hS := since_step s5 hs'
        have hS2 := since_step HS1.out hS
        exact loopAt A n cc _ _ _ xs fi be i q W' hi (HA.out.now (S0.out.trans (since_mono hS2 (show w.heap.size ≤ W.heap.size by omega)))) (by omega) (by omega) (by omega) (by omega) ((hS.cell (a := ⟨w.heap.size + 1 + 1, 0, none⟩) y2).trans d2) ((hS.cell (a := ⟨w.heap.size, 0, none⟩) y0).trans d0) ((hS.cell (a := ⟨w.heap.size + 1, 0, none⟩) y1).trans d1)))
  have E9 : Hid (∀ o o' : Obj, ((w1.alloc o).alloc o').drew.heap.size = w1.heap.size + 1 + 1) := Lib.hid (fun _ _ => by simp)
  clear hE1 hL0
  go_wp2_with fail
  go_region
  all_goals
    go_wp2_with fail
    refine (HP.out _ _ _ (by (repeat (first | (with_reducible refine Fl.sinDrew ?_) | (with_reducible refine World.Since.drew ?_) | (with_reducible refine Fl.sinSet ?_ ?_; rotate_left) | (with_reducible refine Fl.sinAlloc ?_ ?_; rotate_left) | with_reducible exact World.Since.refl _ _ | with_reducible assumption | (with_reducible refine Fl.sinStep (by with_reducible assumption) ?_))); all_goals (first | omega | (simp; done) | (simp; omega) | (simp [go_sem]; done) | (simp [go_sem]; omega))) (by (first | (simp; done) | (simp; omega))) (by (first | (simp; done) | (simp; omega))) (by simp [go_sem]) (by simp [go_sem])).mono ?_
    rintro e w2 ⟨ys, rfl, hg, ha, hs2⟩
    rw [E9.out] at hg
    have HG := Lib.hid hg; have HAA := Lib.hid ha; have HS2 := Lib.hid hs2; clear hg ha hs2
    go_wp2
    go_ret3
    exact ⟨⟨some ⟨_, 0, none⟩, c, ys⟩, c, rfl, rfl, HG.out.less (by omega), HAA.out, S0.out.trans (since_mono (since_step HS1.out (since_step (by (repeat (first | (with_reducible refine Fl.sinDrew ?_) | (with_reducible refine World.Since.drew ?_) | (with_reducible refine Fl.sinSet ?_ ?_; rotate_left) | (with_reducible refine Fl.sinAlloc ?_ ?_; rotate_left) | with_reducible exact World.Since.refl _ _ | with_reducible assumption | (with_reducible refine Fl.sinStep (by with_reducible assumption) ?_))); all_goals (first | omega | (simp; done) | (simp; omega) | (simp [go_sem]; done) | (simp [go_sem]; omega))) HS2.out)) (show w.heap.size ≤ W.heap.size by omega))⟩
end Go.Proofs.Ytogbejgbaenfdaa

/- Players, as lists of their own; what they play. -/
set_option linter.unusedVariables false
set_option linter.unusedSimpArgs false
namespace Go.Proofs.Ytogbejgbaenfdaa
open Fl Go.RowKit
set_option maxHeartbeats 4000000 in
set_option maxRecDepth 100000 in
theorem implRec_own (A : Option Addr) (n cc : Nat) (xs : List Nat) (f s c : Nat) (w : World) (hA : Fs w w.heap.size A n xs) (h : okPlay n f s c = true) :
    Calls Try.prog 38 #[.slice A n cc, .int .i64 f, .int .i64 s, .int .i64 c] w (PLIBo c (plY (smp n (fun k => ab .f32 (wd xs k))) (plc id f s)) (plc id f s c : Nat) true w) := by
  have hb := h
  simp only [okPlay, inB, Bool.and_eq_true, decide_eq_true_eq] at hb
  have HA := Lib.hid hA
  clear hA
  obtain ⟨W, hW⟩ : ∃ W, W = w.alloc (.cells #[.slice A n cc] 33) := ⟨_, rfl⟩
  have S0 : Hid (w.Since w.heap.size W) := Lib.hid (by rw [hW]; exact (World.Since.refl _ _).alloc (Nat.le_refl _) _)
  have z0 : w.heap.size < W.heap.size := by rw [hW]; simp
  have C0 : Hid (W.cell? ⟨w.heap.size, 0, none⟩ = some (.slice A n cc)) := Lib.hid (by rw [hW]; simp [go_sem])
  go_enter Try.func38, Try.ntmps38
  go_wp2_with fail
  rw [← hW]; clear hW
  go_at_call 75
  refine (isPlay_b _ _ _ _ _ _ _ _ h).mono ?_
  rintro e w1 ⟨rfl, hs1⟩
  have HS1 := Lib.hid hs1; clear hs1
  go_wp2_with fail
  refine (play_any 76 78 #[] #[.pointer (some ⟨w.heap.size, 0, none⟩)] id (smp n (fun k => ab .f32 (wd xs k))) f s c w1 (by omega) (by omega) (by omega) (fun _ _ => rfl) (fun _ _ => rfl)
    (fun k hk => by have := plc_le f s (by omega) (by omega) k (by omega); omega) (fun i p W' _ hi _ => anyClos i p W' hi) ?_).mono ?_
  · intro k i q W' hk hq hi hs'
    have hp := plc_le f s (by omega) (by omega) k (by omega)
    have hS := since_step HS1.out hs'
    exact recClos A n cc w.heap.size xs i q W' hi (HA.out.now (S0.out.trans (since_mono hS (by omega)))) ((hS.cell (a := ⟨w.heap.size, 0, none⟩) z0).trans C0.out) (by omega) (by omega)
  rintro e w2 ⟨ys, rfl, hg, ha, hs2⟩
  have HG := Lib.hid hg; have HAA := Lib.hid ha; have HS2 := Lib.hid hs2; clear hg ha hs2
  have z1 := HS1.out.size
  go_wp2
  go_ret3
  exact ⟨w1.heap.size, c, ys, rfl, Nat.le_refl _, HG.out.less (by omega), HAA.out, S0.out.trans (since_mono (since_step HS1.out HS2.out) (by omega))⟩
set_option maxHeartbeats 4000000 in
set_option maxRecDepth 100000 in
theorem implLoop_own (A : Option Addr) (n cc : Nat) (xs : List Nat) (fi be f s c F L : Nat) (w : World) (hA : Fs w w.heap.size A n xs) (h : okPlay n f s c = true) (h1 : inB be 1 n = true) (h2 : inB fi 0 ((be : Int) - 1) = true) (hF : F = 65536 * fi) (hL : L = 65536 * (be - fi)) :
    Calls Try.prog 40 #[.slice A n cc, .int .i64 fi, .int .i64 be, .int .i64 f, .int .i64 s, .int .i64 c] w (PLIBo c (plY (lpS be fi (fun k => ab .f32 (wd xs k))) (plc (backN F L) f s)) (plc (backN F L) f s c : Nat) true w) := by
  have hb := h
  simp only [okPlay, inB, Bool.and_eq_true, decide_eq_true_eq] at hb h1 h2
  have hL0 : 0 < L := by omega
  have hE : ∃ E, E = F + L ∧ E = 65536 * be := ⟨F + L, rfl, by omega⟩
  obtain ⟨E, hE1, hE2⟩ := hE
  have hEi : (be : Int) * 65536 = (E : Int) := by omega
  have hFi : (fi : Int) * 65536 = (F : Int) := by omega
  have HA := Lib.hid hA
  clear hA
  obtain ⟨W, hW⟩ : ∃ W, W = ((w.alloc (.cells #[.slice A n cc] 33)).alloc (.cells #[.int .i64 fi] 2)).alloc (.cells #[.int .i64 be] 2) := ⟨_, rfl⟩
  have S0 : Hid (w.Since w.heap.size W) := Lib.hid (by rw [hW]; exact (((World.Since.refl _ _).alloc (Nat.le_refl _) _).alloc (by simp) _).alloc (by simp; omega) _)
  have z0 : w.heap.size + 1 + 1 < W.heap.size := by rw [hW]; simp
  have C0 : Hid (W.cell? ⟨w.heap.size, 0, none⟩ = some (.slice A n cc)) := Lib.hid (by rw [hW]; simp [go_sem])
  have C1 : Hid (W.cell? ⟨w.heap.size + 1, 0, none⟩ = some (.int .i64 fi)) := Lib.hid (by rw [hW]; simp [go_sem])
  have C2 : Hid (W.cell? ⟨w.heap.size + 1 + 1, 0, none⟩ = some (.int .i64 be)) := Lib.hid (by rw [hW]; simp [go_sem])
  have c0 := C0.out; have c1 := C1.out; have c2 := C2.out
  have HE2 := Lib.hid hE2; have HF := Lib.hid hF; have HL := Lib.hid hL
  clear hE2 hF hL
  go_enter Try.func40, Try.ntmps40
  go_wp2_with fail
  rw [← hW]; clear hW c0 c1 c2
  go_at_call 75
  refine (isPlay_b _ _ _ _ _ _ _ _ h).mono ?_
  rintro e w1 ⟨rfl, hs1⟩
  have z1 := hs1.size
  have y0 : w.heap.size < w1.heap.size := by omega
  have y1 : w.heap.size + 1 < w1.heap.size := by omega
  have y2 : w.heap.size + 1 + 1 < w1.heap.size := by omega
  have d0 := (hs1.cell (a := ⟨w.heap.size, 0, none⟩) (show w.heap.size < W.heap.size by omega)).trans C0.out
  have d1 := (hs1.cell (a := ⟨w.heap.size + 1, 0, none⟩) (show w.heap.size + 1 < W.heap.size by omega)).trans C1.out
  have d2 := (hs1.cell (a := ⟨w.heap.size + 1 + 1, 0, none⟩) z0).trans C2.out
  have HS1 := Lib.hid hs1; clear hs1
  have HP : Hid (∀ (w5 : World) (gE gS : Nat), w1.Since w1.heap.size w5 → gE < w5.heap.size → gS < w5.heap.size → w5.cell? ⟨gE, 0, none⟩ = some (.int .i64 (E : Int)) → w5.cell? ⟨gS, 0, none⟩ = some (.int .i64 (F : Int)) → _) := Lib.hid (fun w5 gE gS s5 hgE hgS hcE hcS =>
    play_any 79 80 #[.pointer (some ⟨gE, 0, none⟩), .pointer (some ⟨gS, 0, none⟩)] #[.pointer (some ⟨w.heap.size + 1 + 1, 0, none⟩), .pointer (some ⟨w.heap.size, 0, none⟩), .pointer (some ⟨w.heap.size + 1, 0, none⟩)] (backN F L) (lpS be fi (fun k => ab .f32 (wd xs k))) f s c w5 (by omega) (by omega) (by omega) (fun _ _ => rfl) (fun _ _ => rfl)
      (fun k _ => by have := plc_loop (F := F) (L := L) (f := f) (s := s) (k := k) hL0; have := HE2.out; omega)
      (fun i p W' hp hi hs' => loopIn gE gS F E L i p W' hi hE1 hL0 hp (by have := HE2.out; omega) (by have := HE2.out; omega) ((hs'.cell (a := ⟨gE, 0, none⟩) hgE).trans hcE) ((hs'.cell (a := ⟨gS, 0, none⟩) hgS).trans hcS))
      (fun k i q W' hk hq hi hs' => by
        have hlt := plc_loop (F := F) (L := L) (f := f) (s := s) (k := k) hL0
        have hE3 := HE2.out
        have hS := since_step s5 hs'
        have hS2 := since_step HS1.out hS
        exact loopAt A n cc _ _ _ xs fi be i q W' hi (HA.out.now (S0.out.trans (since_mono hS2 (show w.heap.size ≤ W.heap.size by omega)))) (by omega) (by omega) (by omega) (by omega) ((hS.cell (a := ⟨w.heap.size + 1 + 1, 0, none⟩) y2).trans d2) ((hS.cell (a := ⟨w.heap.size, 0, none⟩) y0).trans d0) ((hS.cell (a := ⟨w.heap.size + 1, 0, none⟩) y1).trans d1)))
  have E9 : Hid (∀ o o' : Obj, ((w1.alloc o).alloc o').drew.heap.size = w1.heap.size + 1 + 1) := Lib.hid (fun _ _ => by simp)
  clear hE1 hL0
  go_wp2_with fail
  go_region
  all_goals
    go_wp2_with fail
    refine (HP.out _ _ _ (by (repeat (first | (with_reducible refine Fl.sinDrew ?_) | (with_reducible refine World.Since.drew ?_) | (with_reducible refine Fl.sinSet ?_ ?_; rotate_left) | (with_reducible refine Fl.sinAlloc ?_ ?_; rotate_left) | with_reducible exact World.Since.refl _ _ | with_reducible assumption | (with_reducible refine Fl.sinStep (by with_reducible assumption) ?_))); all_goals (first | omega | (simp; done) | (simp; omega) | (simp [go_sem]; done) | (simp [go_sem]; omega))) (by (first | (simp; done) | (simp; omega))) (by (first | (simp; done) | (simp; omega))) (by simp [go_sem]) (by simp [go_sem])).mono ?_
    rintro e w2 ⟨ys, rfl, hg, ha, hs2⟩
    rw [E9.out] at hg
    have HG := Lib.hid hg; have HAA := Lib.hid ha; have HS2 := Lib.hid hs2; clear hg ha hs2
    go_wp2
    go_ret3
    exact ⟨_, c, ys, rfl, Nat.le_refl _, HG.out.less (by omega), HAA.out, S0.out.trans (since_mono (since_step HS1.out (since_step (by (repeat (first | (with_reducible refine Fl.sinDrew ?_) | (with_reducible refine World.Since.drew ?_) | (with_reducible refine Fl.sinSet ?_ ?_; rotate_left) | (with_reducible refine Fl.sinAlloc ?_ ?_; rotate_left) | with_reducible exact World.Since.refl _ _ | with_reducible assumption | (with_reducible refine Fl.sinStep (by with_reducible assumption) ?_))); all_goals (first | omega | (simp; done) | (simp; omega) | (simp [go_sem]; done) | (simp [go_sem]; omega))) HS2.out)) (show w.heap.size ≤ W.heap.size by omega))⟩
/-! what is played -/
theorem plc_cut (f s a : Nat) : ∀ k, plc id (plc id f s a) s k = plc id f s (a + k)
  | 0 => rfl
  | k + 1 => by
    show plc id (plc id f s a) s k + s = plc id f s (a + k) + s
    rw [plc_cut f s a k]
theorem plc_id (f s : Nat) : ∀ k, plc id f s k = f + s * k
  | 0 => rfl
  | k + 1 => by
    show plc id f s k + s = _
    rw [plc_id f s k, Nat.mul_succ]; omega
theorem plY_cut (S : Nat → O) (f s a k : Nat) : plY S (plc id (plc id f s a) s) k = plY S (plc id f s) (a + k) := by
  unfold plY
  rw [plc_cut]
theorem plY_whole (S : Nat → O) (P : Nat → Nat) (i k : Nat) (h : P k = 65536 * i) : plY S P k = S i := by
  unfold plY btO
  rw [h, if_pos (by omega), show 65536 * i / 65536 = i by omega]
/-- the place in a loop of whole samples -/
def lpI (fi be : Nat) : Nat → Nat
  | 0 => 0
  | k + 1 => if lpI fi be k + 1 = be then fi else lpI fi be k + 1
theorem lpI_lt {fi be : Nat} (h : fi < be) : ∀ k, lpI fi be k < be
  | 0 => by unfold lpI; omega
  | k + 1 => by
    have := lpI_lt h k
    unfold lpI
    split <;> omega
theorem plc_lpI {fi be : Nat} (h : fi < be) : ∀ k, plc (backN (65536 * fi) (65536 * (be - fi))) 0 65536 k = 65536 * lpI fi be k
  | 0 => by
    unfold plc backN lpI
    rw [if_pos (by omega)]
  | k + 1 => by
    have hl := lpI_lt h k
    show backN (65536 * fi) (65536 * (be - fi)) (plc (backN (65536 * fi) (65536 * (be - fi))) 0 65536 k + 65536) = 65536 * (if lpI fi be k + 1 = be then fi else lpI fi be k + 1)
    rw [plc_lpI h k]
    generalize lpI fi be k = q at *
    unfold backN
    by_cases e : q + 1 = be
    · rw [if_pos e, if_neg (by omega)]
      have : 65536 * q + 65536 - 65536 * fi = 65536 * (be - fi) := by omega
      rw [this, Nat.mod_self]; omega
    · rw [if_neg e, if_pos (by omega)]; omega
theorem plY_loop (X : Nat → O) {fi be : Nat} (h : fi < be) (k : Nat) : plY (lpS be fi X) (plc (backN (65536 * fi) (65536 * (be - fi))) 0 65536) k = X (lpI fi be k) := by
  rw [plY_whole _ _ (lpI fi be k) k (plc_lpI h k)]
  unfold lpS
  rw [if_neg (by have := lpI_lt h k; omega)]
end Go.Proofs.Ytogbejgbaenfdaa

/- The law of gates. -/
set_option linter.unusedVariables false
set_option linter.unusedSimpArgs false
namespace Go.Proofs.Ytogbejgbaenfdaa
open Fl Go.RowKit
theorem Fs.head {w : World} {B n m : Nat} {A : Option Addr} {xs : List Nat} (h : Fs w B A n xs) (hm : m ≤ n) : Fs w B A m (xs.take m) :=
  ⟨by rw [List.length_take, h.1]; omega, fun x hx => h.2.1 x (List.mem_of_mem_take hx), fun h0 => by
    obtain ⟨g, off, e, hg, hc⟩ := h.2.2 (by omega)
    refine ⟨g, off, e, hg, fun k hk => ?_⟩
    rw [hc k (by omega)]
    unfold fv wd
    simp [List.getD_eq_getElem?_getD, List.getElem?_take, hk]⟩
theorem wd_take (xs : List Nat) (m k : Nat) (h : k < m) : wd (xs.take m) k = wd xs k := by unfold wd; simp [List.getD_eq_getElem?_getD, List.getElem?_take, h]
theorem Fs.tail0 {w : World} {B n m : Nat} {g : Nat} {xs : List Nat} (h : Fs w B (some ⟨g, 0, none⟩) n xs) (hm : m ≤ n) : Fs w B (some ⟨g, m, none⟩) (n - m) (xs.drop m) := by
  have h1 := Fs.tail (n := m) (m := n - m) (g := g) (off := 0) (w := w) (B := B) (xs := xs) (by rw [show m + (n - m) = n by omega]; exact h)
  rwa [Nat.zero_add] at h1
theorem Fs.cell0 {w : World} {B n g k : Nat} {xs : List Nat} (h : Fs w B (some ⟨g, 0, none⟩) n xs) (hk : k < n) : w.cell? ⟨g, k, none⟩ = some (.float .f32 (wd xs k)) ∧ g < B := by
  obtain ⟨g', off, e, hg, hc⟩ := h.2.2 (by omega)
  injection e with e
  injection e with e1 e2 _
  subst e1; subst e2
  have := hc k hk
  rw [Nat.zero_add] at this
  exact ⟨this, hg⟩
/-- an operation whose guard says yes, as one without a guard -/
theorem wpList_yes {ops : Array Oper} {rest : List Oper} {o : Oper} {a : Act} {Q : Exit → Act → World → Prop} {w : World} (hw : Region.wanted o (yielded ops a.tmps) = true)
    (h : wpList Try.prog ops Q ({ o with guard := none } :: rest) a w) : wpList Try.prog ops Q (o :: rest) a w := by
  unfold wpList at h ⊢
  rw [if_pos hw]
  rw [if_pos (by rfl)] at h
  exact h
set_option maxHeartbeats 16000000 in
set_option maxRecDepth 100000 in
theorem lawGated_any (A : Option Addr) (n c : Nat) (xs : List Int) (B : Option Addr) (m d : Nat) (ys : List Int) (w : World) (hA : Bs w w.heap.size A n xs) (hB : Bs w w.heap.size B m ys) :
    Calls Try.prog 5 #[.slice A n c, .slice B m d] w fun e w' => e = .returned (.bool true) ∧ w.Since w.heap.size w' := by
  have HA := Lib.hid hA; have HB := Lib.hid hB; clear hA hB
  cases hl : (decide ((48 : Int) < n) || decide ((48 : Int) < m))
  case true =>
    go_enter Try.func5, Try.ntmps5
    go_wp2_with fail
    refine (r8Long_any A B n c m d true w hl).mono ?_
    rintro e w1 ⟨rfl, hs⟩
    have S1 := Lib.hid hs; clear hs
    go_wp2
    go_ret
    exact ⟨rfl, S1.out⟩
  case false =>
    have hnm : n ≤ 48 ∧ m ≤ 48 := by simp only [Bool.or_eq_false_iff, decide_eq_false_iff_not] at hl; omega
    go_enter Try.func5, Try.ntmps5
    go_wp2_with fail
    refine (r8Long_any A B n c m d false w hl).mono ?_
    rintro e w1 ⟨rfl, hs⟩
    have S1 := Lib.hid hs; clear hs hl
    go_wp2_with fail
    refine (samples_any B m d ys 16 w1 ((HB.out.since S1.out (Nat.le_refl _)).more S1.out.size) (by omega) (by omega)).mono ?_
    rintro e w2 ⟨k, hk, g, cp, zs, rfl, hcp, hg, hs⟩
    have G2 : Hid (Fs w2 w2.heap.size (some ⟨g, 0, none⟩) k zs) := Lib.hid hg.read
    have S2 := Lib.hid (since_step S1.out hs)
    clear hg hs
    go_wp2_with fail
    refine (r8At_any A n c xs 0 32 w2 ((HA.out.since S2.out (Nat.le_refl _)).more S2.out.size) (by omega) (by omega)).mono ?_
    rintro e w3 ⟨v3, rfl, a1, a2, hs⟩
    have a3 := a2 (by omega)
    have S3 := Lib.hid (since_step S2.out hs)
    have G3 := Lib.hid ((G2.out.since hs).more hs.size)
    clear hs a2
    have q1 := fI_fv v3
    have q16 : Hid (Fv .f32 1098907648 (some 1098907648)) := fvc (by decide) (by decide)
    go_wp2_with (with_reducible_and_instances refine Lo.wpList_fo _ rfl _ _ _ _ _ rfl _ _ _ _ _ rfl rfl rfl (by assumption) (by assumption) ?_; intro rr nn hrr)
    generalize hW : World.drewN w3 _ = W4
    have S4 : Hid (w.Since w.heap.size W4) := Lib.hid (by rw [← hW]; exact since_drewN S3.out _)
    have G4 : Hid (Fs W4 W4.heap.size (some ⟨g, 0, none⟩) k zs) := Lib.hid (by rw [← hW]; exact G3.out)
    clear hW G2 G3 S1 S2 S3
    have ht := hrr; clear hrr
    generalize opO .quo .f32 (some (fI v3)) (some 1098907648) = T at ht
    clear q1
    refine (r8At_any A n c xs 1 5 W4 ((HA.out.since S4.out (Nat.le_refl _)).more S4.out.size) (by omega) (by omega)).mono ?_
    rintro e w5 ⟨hold, rfl, b1, b2, hs⟩
    have b3 := b2 (by omega)
    have S5 := Lib.hid (since_step S4.out hs)
    have G5 := Lib.hid ((G4.out.since hs).more hs.size)
    clear hs b2 S4 G4
    go_wp2_with fail
    refine (r8At_any A n c xs 2 ((k : Int) + 1) w5 ((HA.out.since S5.out (Nat.le_refl _)).more S5.out.size) (by omega) (by omega)).mono ?_
    rintro e w6 ⟨at_, rfl, c1, c2, hs⟩
    have c3 := c2 (by omega)
    obtain ⟨a, rfl⟩ := Int.eq_ofNat_of_zero_le c1
    have ha : a ≤ k := by omega
    have S6 := Lib.hid (since_step S5.out hs)
    have G6 := Lib.hid ((G5.out.since hs).more hs.size)
    clear hs c1 c2 c3 S5 G5
    have i1 : inB hold 0 10000 = true := by simp only [inB, Bool.and_eq_true, decide_eq_true_eq]; omega
    have i2 : inB 0 0 hold = true := by simp only [inB, Bool.and_eq_true, decide_eq_true_eq]; omega
    obtain ⟨Z, hZ⟩ : ∃ Z : Nat → O, Hid (Z = fun j => ab .f32 (wd zs j)) := ⟨_, Lib.hid rfl⟩
    have hk0 : Calls Try.prog 29 #[.slice (some ⟨g, 0, none⟩) k cp, .float .f32 rr, .int .i64 hold, .int .i64 0] w6 (PLIBo k (gateY Z T hold 0) (gateH Z T hold 0 k) true w6) := by
      rw [hZ.out]; exact implGate_own (some ⟨g, 0, none⟩) k cp zs rr T hold 0 w6 G6.out (by omega) ht i1 i2
    have K0 := Lib.hid hk0; clear hk0
    go_wp2_with fail
    refine K0.out.mono ?_
    rintro e w7 ⟨g1, c1, o1, rfl, hc1, hg1, hf1, hs⟩
    have S7 := Lib.hid (since_step S6.out hs)
    have G7 := Lib.hid ((G6.out.since hs).more hs.size)
    have P7 := Lib.hid hg1.read; have F1 := Lib.hid hf1
    clear hs hg1 hf1 S6 G6 K0
    have l1 : ∀ j, j < a → (fun j => ab .f32 (wd (zs.take a) j)) j = Z j := fun j hj => by rw [hZ.out]; simp only; rw [wd_take _ _ _ hj]
    have l2 : (fun j => ab .f32 (wd (zs.drop a) j)) = fun j => Z (a + j) := by rw [hZ.out]; funext j; simp only; rw [wd_drop]
    have hk1 : Calls Try.prog 29 #[.slice (some ⟨g, 0, none⟩) a cp, .float .f32 rr, .int .i64 hold, .int .i64 0] w7 (PLIBo a (gateY (fun j => ab .f32 (wd (zs.take a) j)) T hold 0) (gateH Z T hold 0 a) true w7) := by
      rw [← gateH_like l1 a (Nat.le_refl _)]; exact implGate_own (some ⟨g, 0, none⟩) a cp (zs.take a) rr T hold 0 w7 (Fs.head G7.out ha) (by omega) ht i1 i2
    have K1 := Lib.hid hk1; clear hk1
    go_wp2_with fail
    refine K1.out.mono ?_
    rintro e w8 ⟨g2, c2, o2, rfl, hc2, hg2, hf2, hs⟩
    have S8 := Lib.hid (since_step S7.out hs)
    have G8 := Lib.hid ((G7.out.since hs).more hs.size)
    have P8 := Lib.hid ((P7.out.since hs).more hs.size)
    have Q8 := Lib.hid hg2.read
    have F2 : Hid (∀ j, j < a → ab .f32 (wd o2 j) = gateY Z T hold 0 j) := Lib.hid fun j hj => (hf2 j hj).trans (gateY_like l1 j hj)
    clear hs hg2 hf2 S7 G7 K1 P7
    have i3 : inB (gateH Z T hold 0 a) 0 hold = true := by
      have := gateH_in (X := Z) (T := T) (hold := hold) (held := 0) (by omega) (by omega) a
      simp only [inB, Bool.and_eq_true, decide_eq_true_eq]; omega
    have hk2 : ∀ (A' : Option Addr) (c' : Nat), (A' = some ⟨g, a, none⟩ ∨ k - a = 0) → Calls Try.prog 29 #[.slice A' (k - a) c', .float .f32 rr, .int .i64 hold, .int .i64 (gateH Z T hold 0 a)] w8 (PLIBo (k - a) (fun j => gateY Z T hold 0 (a + j)) (gateH Z T hold 0 k) true w8) := by
      intro A' c' hA'
      have hf : Fs w8 w8.heap.size A' (k - a) (zs.drop a) := by
        rcases hA' with rfl | h0
        · exact Fs.tail0 G8.out ha
        · have := Fs.tail0 G8.out ha; exact ⟨this.1, this.2.1, fun h => by omega⟩
      have h1 := implGate_own A' (k - a) c' (zs.drop a) rr T hold (gateH Z T hold 0 a) w8 hf (by omega) ht i1 i3
      rw [l2, gateH_cut, show a + (k - a) = k by omega] at h1
      rw [show (fun j => gateY Z T hold 0 (a + j)) = gateY (fun j => Z (a + j)) T hold (gateH Z T hold 0 a) by funext j; rw [gateY_cut]]
      exact h1
    have K2 := Lib.hid hk2; clear hk2
    go_wp2_with fail
    case' inl => refine (K2.out (some ⟨g, 0, none⟩) 0 (.inr (by omega))).mono ?_
    case' inr => refine (K2.out (some ⟨g, a, none⟩) (cp - a) (.inl rfl)).mono ?_
    all_goals
      rintro e w9 ⟨g3, c3, o3, rfl, hc3, hg3, hf3, hs⟩
      have S9 := Lib.hid (since_step S8.out hs)
      have G9 := Lib.hid ((G8.out.since hs).more hs.size)
      have P9 := Lib.hid ((P8.out.since hs).more hs.size)
      have Q9 := Lib.hid ((Q8.out.since hs).more hs.size)
      have R9 := Lib.hid hg3.read
      have F3 : Hid (∀ j, j < k - a → ab .f32 (wd o3 j) = gateY Z T hold 0 (a + j)) := Lib.hid hf3
      clear hs hg3 hf3 S8 G8 K2 P8 Q8
      go_wp2_with (first
        | (at_builtin; refine wpList_yes rfl ?_; refine wpList_appN rfl (.tmp 88) (.tmp 89) rfl w9.heap.size _ 0 (gateY Z T hold 0) rfl _ _ _ o2 _ rfl (by simp) (Lib.hid (Q9.out.since ((World.Since.refl _ _).alloc (Nat.le_refl _) _))) (fun j hj => by rw [Nat.zero_add]; exact (F2.out j hj).symm) (by omega) (by simp) (Rw.start w9 _ (Nat.le_refl _) _) ?_; intro v1 wa hRa hSa; have Ha := Lib.hid (((World.Since.refl w9.heap.size w9).alloc (Nat.le_refl _) _).trans hSa.out); clear hSa)
        | (at_builtin; refine wpList_yes rfl ?_; refine wpList_appN rfl (.tmp 90) (.tmp 91) rfl w9.heap.size _ (0 + a) (gateY Z T hold 0) rfl _ _ _ o3 _ rfl (by simp) (Lib.hid (R9.out.since Ha.out)) (fun j hj => by rw [Nat.zero_add]; exact (F3.out j hj).symm) (by omega) Ha.out.size hRa.out ?_; intro v2 wb hRb hSb; have Hb := Lib.hid (Ha.out.trans hSb.out); clear hSb; obtain ⟨⟨pA, pn, px⟩, cq, rfl, hpn, hgp, hap⟩ := hRb.out.done; simp only at hpn hgp; have hpk : k = pn := (by omega); subst hpk; have GP := Lib.hid hgp.read; have AP := Lib.hid hap; clear hgp hap hRa hRb hpn)
        | (go_at_call 30; refine (r8Same_any _ _ k _ _ px o1 wb GP.out ((P9.out.since Hb.out).more Hb.out.size) (by omega) (fun j hj => (AP.out j hj).trans (F1.out j hj).symm)).mono ?_; rintro e wc ⟨rfl, hs⟩; have Sc := Lib.hid (since_step (S9.out.trans (since_mono Hb.out S9.out.size)) hs); have Gc := Lib.hid (((G9.out.since Hb.out).since (since_mono hs Hb.out.size)).more (Nat.le_trans Hb.out.size hs.size)); have Pc := Lib.hid (((P9.out.since Hb.out).since (since_mono hs Hb.out.size)).more (Nat.le_trans Hb.out.size hs.size)); clear hs GP AP Hb Ha Q9 R9 G9 P9 S9))
      go_loopw [18, 19] (fun o i wr => ∃ j : Nat, j ≤ k ∧ i = .int .i64 (j : Int) ∧ o = .int .i64 (lastO Z T j) ∧ wc.Since wc.heap.size wr) (fun _ i _ => k - (intOf i).toNat)
      case atStart => exact ⟨0, Nat.zero_le _, rfl, rfl, World.Since.refl _ _⟩
      case round =>
        obtain ⟨j, hj, rfl, rfl, hs⟩ := hrel
        have SW := Lib.hid hs; clear hs
        by_cases hlt : j < k
        · obtain ⟨cz, bz⟩ := Fs.cell0 Gc.out hlt
          obtain ⟨co, bo⟩ := Fs.cell0 Pc.out hlt
          have kz : wr.cell? ⟨g, j, none⟩ = some (.float .f32 (wd zs j)) := (SW.out.cell (a := ⟨g, j, none⟩) bz).trans cz
          have ko : wr.cell? ⟨g1, j, none⟩ = some (.float .f32 (wd o1 j)) := (SW.out.cell (a := ⟨g1, j, none⟩) bo).trans co
          clear cz co
          have hx : Hid (Fv .f32 (wd zs j) (ab .f32 (wd zs j))) := Lib.hid ⟨Gc.out.2.1.at_ j, rfl⟩
          have hn : Hid (Fv .f32 (Op.negFloat .f32 (wd zs j)) (ab .f32 (Op.negFloat .f32 (wd zs j)))) := Lib.hid ⟨neg_lt .f32 hx.out.1, rfl⟩
          have hw1 := Pc.out.2.1.at_ j
          have hw2 := Gc.out.2.1.at_ j
          have hge := Lib.hid (ge_size (wd zs j) hw2 T rr ht.out)
          have hzj : Hid (Z j = ab .f32 (wd zs j)) := Lib.hid (by rw [hZ.out])
          obtain ⟨o', ho⟩ : ∃ o' : Int, Hid (lastO Z T (j + 1) = o') := ⟨_, Lib.hid rfl⟩
          have hL : Hid (o' = if geO (sizeO (Z j)) T then (j : Int) else lastO Z T j) := Lib.hid (ho.out.symm.trans rfl)
          have hY : Hid (ab .f32 (wd o1 j) = if 0 ≤ o' ∧ (j : Int) - o' ≤ hold then Z j else some 0) := Lib.hid (by rw [← ho.out]; exact (F1.out j hlt).trans (gateY_open Z T hold b1 j))
          have hi := lastO_in Z T j
          have g1_ := gt_fv hx ht
          have g2_ := eq_fv hx ht
          have g3_ := gt_fv hn ht
          have g4_ := eq_fv hn ht
          have hz0 : (0 : Nat) < 4294967296 := by decide
          have finish : Hid ((0 ≤ o' ∧ (j : Int) - o' ≤ hold → ∀ v : World, Calls Try.prog 12 #[.float .f32 (wd o1 j), .float .f32 (wd zs j)] v fun e v' => e = .returned (.bool true) ∧ v' = v) ∧ (¬ (0 ≤ o' ∧ (j : Int) - o' ≤ hold) → ∀ v : World, Calls Try.prog 12 #[.float .f32 (wd o1 j), .float .f32 0] v fun e v' => e = .returned (.bool true) ∧ v' = v)) := Lib.hid
            ⟨fun hp v => by
              have h9 := hY.out
              rw [if_pos hp, hzj.out] at h9
              exact (implSame_any _ _ _ hw1 hw2).mono fun e v' ⟨h1, h2⟩ => ⟨by rw [h1, h9, decide_eq_true rfl], h2.symm⟩,
            fun hp v => by
              have h9 := hY.out
              rw [if_neg hp] at h9
              exact (implSame_any _ _ _ hw1 hz0).mono fun e v' ⟨h1, h2⟩ => ⟨by rw [h1, h9, ab32_zero, decide_eq_true rfl], h2.symm⟩⟩
          clear hY
          have fin1 := Lib.hid finish.out.1; have fin2 := Lib.hid finish.out.2; clear finish
          have hgX : geO (ab .f32 (wd zs j)) T = (gtO (ab .f32 (wd zs j)) T || eqO (ab .f32 (wd zs j)) T) := rfl
          have hgN : geO (ab .f32 (Op.negFloat .f32 (wd zs j))) T = (gtO (ab .f32 (Op.negFloat .f32 (wd zs j))) T || eqO (ab .f32 (Op.negFloat .f32 (wd zs j))) T) := rfl
          have hLo : Hid (geO (sizeO (Z j)) T = ((gtO (ab .f32 (wd zs j)) T || eqO (ab .f32 (wd zs j)) T) || (gtO (ab .f32 (Op.negFloat .f32 (wd zs j))) T || eqO (ab .f32 (Op.negFloat .f32 (wd zs j))) T))) := Lib.hid (by rw [hzj.out, hge.out, hgX, hgN])
          clear hgX hgN hge
          cases loud : geO (sizeO (Z j)) T
          · have hl1 := hL.out
            rw [loud, if_neg (by decide)] at hl1
            have hl2 := hLo.out
            rw [loud] at hl2
            have hl3 := hl2.symm
            simp only [Bool.or_eq_false_iff] at hl3
            obtain ⟨⟨e1, e2⟩, e3, e4⟩ := hl3
            clear hl2 hL hLo loud
            subst hl1
            generalize lastO Z T j = q at *
            rw [e1] at g1_; rw [e2] at g2_; rw [e3] at g3_; rw [e4] at g4_
            by_cases p1 : 0 ≤ q
            · have d1 : decide (0 ≤ q) = true := decide_eq_true p1
              by_cases p2 : (j : Int) - q ≤ hold
              · have d2 : decide ((j : Int) - q ≤ hold) = true := decide_eq_true p2
                have HQ := Lib.hid (fin1.out ⟨p1, p2⟩)
                clear fin1 fin2
                go_wp2_with fail
                go_quiet (first | (go_at_call 12; refine Calls.quiet_of_same (HQ.out _)))
                go_wp2
                go_roundw
                case rel => exact ⟨j + 1, by omega, by go_num, by rw [ho.out], since_drewN SW.out _⟩
                case measure => simp [intOf]; omega
              · have d2 : decide ((j : Int) - q ≤ hold) = false := decide_eq_false p2
                have HQ := Lib.hid (fin2.out fun h => p2 h.2)
                clear fin1 fin2
                go_wp2_with (go_at_call 12; refine (HQ.out _).mono ?_; rintro e v' ⟨rfl, rfl⟩)
                go_roundw
                case rel => exact ⟨j + 1, by omega, by go_num, by rw [ho.out], SW.out⟩
                case measure => simp [intOf]; omega
            · have d1 : decide (0 ≤ q) = false := decide_eq_false p1
              have HQ := Lib.hid (fin2.out fun h => p1 h.1)
              clear fin1 fin2
              go_wp2_with (go_at_call 12; refine (HQ.out _).mono ?_; rintro e v' ⟨rfl, rfl⟩)
              go_roundw
              case rel => exact ⟨j + 1, by omega, by go_num, by rw [ho.out], SW.out⟩
              case measure => simp [intOf]; omega
          · have hl1 := hL.out
            rw [loud, if_pos rfl] at hl1
            have hl2 := hLo.out
            rw [loud] at hl2
            subst hl1
            have d1 : decide (0 ≤ (j : Int)) = true := decide_eq_true (by omega)
            have d2 : decide (0 ≤ hold) = true := decide_eq_true (by omega)
            have HQ := Lib.hid (fin1.out ⟨by omega, by omega⟩)
            clear fin1 fin2 hL hLo loud
            cases e1 : gtO (ab .f32 (wd zs j)) T
            · cases e2 : eqO (ab .f32 (wd zs j)) T
              · cases e3 : gtO (ab .f32 (Op.negFloat .f32 (wd zs j))) T
                · cases e4 : eqO (ab .f32 (Op.negFloat .f32 (wd zs j))) T
                  · rw [e1, e2, e3, e4] at hl2; simp at hl2
                  · clear hl2
                    rw [e1] at g1_
                    rw [e2] at g2_
                    rw [e3] at g3_
                    rw [e4] at g4_
                    go_wp2_with fail
                    go_quiet (first | (go_at_call 12; refine Calls.quiet_of_same (HQ.out _)))
                    go_wp2
                    go_roundw
                    case rel => exact ⟨j + 1, by omega, by go_num, by rw [ho.out], since_drewN SW.out _⟩
                    case measure => simp [intOf]; omega
                · clear hl2
                  rw [e1] at g1_
                  rw [e2] at g2_
                  rw [e3] at g3_
                  go_wp2_with fail
                  go_quiet (first | (go_at_call 12; refine Calls.quiet_of_same (HQ.out _)))
                  go_wp2
                  go_roundw
                  case rel => exact ⟨j + 1, by omega, by go_num, by rw [ho.out], since_drewN SW.out _⟩
                  case measure => simp [intOf]; omega
              · clear hl2
                rw [e1] at g1_
                rw [e2] at g2_
                go_wp2_with fail
                go_quiet (first | (go_at_call 12; refine Calls.quiet_of_same (HQ.out _)))
                go_wp2
                go_roundw
                case rel => exact ⟨j + 1, by omega, by go_num, by rw [ho.out], since_drewN SW.out _⟩
                case measure => simp [intOf]; omega
            · clear hl2
              rw [e1] at g1_
              go_wp2_with fail
              go_quiet (first | (go_at_call 12; refine Calls.quiet_of_same (HQ.out _)))
              go_wp2
              go_roundw
              case rel => exact ⟨j + 1, by omega, by go_num, by rw [ho.out], since_drewN SW.out _⟩
              case measure => simp [intOf]; omega
        · obtain rfl : j = k := by omega
          go_wp2
          go_ret
          exact ⟨rfl, since_step Sc.out SW.out⟩
end Go.Proofs.Ytogbejgbaenfdaa

/- The law of players. -/
set_option linter.unusedVariables false
set_option linter.unusedSimpArgs false
namespace Go.Proofs.Ytogbejgbaenfdaa
open Fl Go.RowKit
theorem recI (A : Option Addr) (n cc : Nat) (xs : List Nat) (f s c e : Int) (F S C : Nat) (Y : Nat → O) (w : World) (hA : Fs w w.heap.size A n xs) (hf : f = F) (hs : s = S) (hc : c = C) (he : e = (plc id F S C : Nat)) (h1 : 1 ≤ n) (h2 : n ≤ 256) (h3 : F ≤ 16777216) (h4 : S ≤ 655360) (h5 : C ≤ 256)
    (hY : ∀ k, k < C → plY (smp n (fun k => ab .f32 (wd xs k))) (plc id F S) k = Y k) :
    Calls Try.prog 38 #[.slice A n cc, .int .i64 f, .int .i64 s, .int .i64 c] w (PLIBo C Y e true w) := by
  subst hf; subst hs; subst hc; subst he
  refine (implRec_own A n cc xs F S C w hA (by simp only [okPlay, inB, Bool.and_eq_true, decide_eq_true_eq]; omega)).mono ?_
  rintro e w' ⟨g, c, zs, h1, h2, h3, h4, h5⟩
  exact ⟨g, c, zs, h1, h2, h3, fun k hk => (h4 k hk).trans (hY k hk), h5⟩
theorem loopI (A : Option Addr) (n cc : Nat) (xs : List Nat) (fi be : Int) (FI BE : Nat) (w : World) (hA : Fs w w.heap.size A n xs) (hf : fi = FI) (hb : be = BE) (h1 : BE ≤ n) (h2 : n ≤ 256) (h3 : FI < BE) :
    Calls Try.prog 40 #[.slice A n cc, .int .i64 fi, .int .i64 be, .int .i64 0, .int .i64 65536, .int .i64 40] w fun e w' => ∃ z, PLIBo 40 (fun k => ab .f32 (wd xs (lpI FI BE k))) z true w e w' := by
  subst hf; subst hb
  refine (implLoop_own A n cc xs FI BE 0 65536 40 (65536 * FI) (65536 * (BE - FI)) w hA (by simp only [okPlay, inB, Bool.and_eq_true, decide_eq_true_eq]; omega) (by simp only [inB, Bool.and_eq_true, decide_eq_true_eq]; omega) (by simp only [inB, Bool.and_eq_true, decide_eq_true_eq]; omega) rfl rfl).mono ?_
  rintro e w' ⟨g, c, zs, h1, h2, h3, h4, h5⟩
  exact ⟨_, g, c, zs, h1, h2, h3, fun k hk => (h4 k hk).trans (plY_loop _ ‹_› k), h5⟩
def lpA (fi be : Nat) : Nat → Nat
  | 0 => 0
  | k + 1 => lpI fi be k + 1
theorem lpI_of {fi be : Nat} (h : fi < be) (k : Nat) : lpI fi be k = if lpA fi be k = be then fi else lpA fi be k := by
  cases k with
  | zero => show (0 : Nat) = if (0 : Nat) = be then fi else 0; rw [if_neg (by omega)]
  | succ k => rfl
theorem lpA_le {fi be : Nat} (h : fi < be) (k : Nat) : lpA fi be k ≤ be := by
  cases k with
  | zero => exact Nat.zero_le _
  | succ k => have := lpI_lt h k; show lpI fi be k + 1 ≤ be; omega
theorem zeros3w : ∀ j, j < 3 → some 0 = ab .f32 (wd [0, 0, 0] j) := by decide +kernel
theorem zeros3 (w : World) (T : TypeId) : Fs (w.alloc (.cells #[.float .f32 0, .float .f32 0, .float .f32 0] T)) (w.heap.size + 1) (some ⟨w.heap.size, 0, none⟩) 3 [0, 0, 0] :=
  ⟨rfl, (fun x hx => by simp at hx; subst hx; decide), fun _ => ⟨w.heap.size, 0, rfl, by omega, fun k hk => by
    have h := Go.Deep.blk_alloc_new w (.cells #[.float .f32 0, .float .f32 0, .float .f32 0] T)
    rw [Nat.zero_add]
    unfold World.cell?
    simp only [h]
    rcases k with _ | _ | _ | k
    · rfl
    · rfl
    · rfl
    · omega⟩⟩
set_option maxHeartbeats 16000000 in
set_option maxRecDepth 100000 in
theorem lawPlayers_any (A : Option Addr) (n c : Nat) (xs : List Int) (B : Option Addr) (m d : Nat) (ys : List Int) (w : World) (hA : Bs w w.heap.size A n xs) (hB : Bs w w.heap.size B m ys) :
    Calls Try.prog 7 #[.slice A n c, .slice B m d] w fun e w' => e = .returned (.bool true) ∧ w.Since w.heap.size w' := by
  have HA := Lib.hid hA; have HB := Lib.hid hB; clear hA hB
  cases hl : (decide ((1048576 : Int) < n) || decide ((1048576 : Int) < m))
  case true =>
    go_enter Try.func7, Try.ntmps7
    go_wp2_with fail
    refine (b10Long_any A B n c m d true w hl).mono ?_
    rintro e w1 ⟨rfl, hs⟩
    have S1 := Lib.hid hs; clear hs
    go_wp2
    go_ret
    exact ⟨rfl, S1.out⟩
  case false =>
    have hnm : n ≤ 1048576 ∧ m ≤ 1048576 := by simp only [Bool.or_eq_false_iff, decide_eq_false_iff_not] at hl; omega
    go_enter Try.func7, Try.ntmps7
    go_wp2_with fail
    refine (b10Long_any A B n c m d false w hl).mono ?_
    rintro e w1 ⟨rfl, hs⟩
    have S1 := Lib.hid hs; clear hs hl
    go_wp2_with fail
    refine (b10At_any A n c xs 0 12 w1 ((HA.out.since S1.out (Nat.le_refl _)).more S1.out.size) (by omega) (by omega)).mono ?_
    rintro e w2 ⟨z_, rfl, a1_, a2_, hs⟩
    obtain ⟨q, rfl⟩ := Int.eq_ofNat_of_zero_le a1_
    have hq := a2_ (by omega)
    have S2 := Lib.hid (since_step S1.out hs)
    clear hs a1_ a2_ S1
    have hk0 := numbers_any A n c xs (q + 1) w2 ((HA.out.since S2.out (Nat.le_refl _)).more S2.out.size) (by omega) (by omega)
    rw [show ((q + 1 : Nat) : Int) = 1 + (q : Int) by omega] at hk0
    have K0 := Lib.hid hk0; clear hk0
    go_wp2_with fail
    refine K0.out.mono ?_
    rintro e w3 ⟨g, cp, zs, rfl, hcp, hg, hs⟩
    have G3 : Hid (Fs w3 w3.heap.size (some ⟨g, 0, none⟩) (q + 1) zs) := Lib.hid hg.read
    have S3 := Lib.hid (since_step S2.out hs)
    clear hs hg S2 K0
    obtain ⟨X, hX⟩ : ∃ X : Nat → O, Hid (X = fun j => ab .f32 (wd zs j)) := ⟨_, Lib.hid rfl⟩
    obtain ⟨Y0, hY0⟩ : ∃ Y : Nat → O, Hid (Y = fun j => if j < q + 1 then X j else some 0) := ⟨_, Lib.hid rfl⟩
    have K1 := Lib.hid (recI (some ⟨g, 0, none⟩) (q + 1) cp zs 0 65536 (1 + (q : Int) + 3) _ 0 65536 (q + 4) Y0 w3 G3.out rfl rfl (by omega) rfl (by omega) (by omega) (by omega) (by omega) (by omega) (fun k hk => by
      rw [plY_whole _ _ k k (by rw [plc_id]; omega), hY0.out, hX.out]; rfl))
    go_wp2_with fail
    refine K1.out.mono ?_
    rintro e w4 ⟨g1, c1, o1, rfl, hc1, hg1, hf1, hs⟩
    have S4 := Lib.hid (since_step S3.out hs)
    have G4 := Lib.hid ((G3.out.since hs).more hs.size)
    have P4 := Lib.hid hg1.read; have F1 := Lib.hid hf1
    clear hs hg1 hf1 S3 G3 K1
    go_wp2_with (first
      | (at_builtin; refine wpList_yes rfl ?_; refine wpList_appN rfl (.tmp 51) (.tmp 52) rfl w4.heap.size _ 0 Y0 rfl _ _ _ zs _ rfl (by simp) (Lib.hid (G4.out.since ((World.Since.refl _ _).alloc (Nat.le_refl _) _))) (fun j hj => by rw [Nat.zero_add, hY0.out]; simp only; rw [if_pos hj, hX.out]) (by omega) (by simp) (Rw.start w4 _ (Nat.le_refl _) _) ?_; intro v1 wa hRa hSa; have Ha := Lib.hid (((World.Since.refl w4.heap.size w4).alloc (Nat.le_refl _) _).trans hSa.out); clear hSa)
      | (at_builtin; refine wpList_yes rfl ?_; refine wpList_appN rfl (.tmp 53) (.tmp 54) rfl w4.heap.size _ (0 + (q + 1)) Y0 rfl _ _ _ [0, 0, 0] _ rfl (by simp) (Lib.hid (zeros3 wa _)) (fun j hj => by rw [hY0.out]; simp only; rw [if_neg (by omega)]; exact zeros3w j hj) (by omega) (Nat.le_trans Ha.out.size (by simp)) (hRa.out.alloc _) ?_; intro v2 wb hRb hSb; have Hb := Lib.hid ((Ha.out.alloc Ha.out.size _).trans hSb.out); clear hSb; obtain ⟨⟨pA, pn, px⟩, cq, rfl, hpn, hgp, hap⟩ := hRb.out.done; simp only at hpn hgp; have hpk : q + 4 = pn := (by omega); subst hpk; have GP := Lib.hid hgp.read; have AP := Lib.hid hap; clear hgp hap hRa hRb hpn)
      | (go_at_call 39; refine (b10Same_any _ _ (q + 4) _ _ o1 px wb ((P4.out.since Hb.out).more Hb.out.size) GP.out (by omega) (fun j hj => (F1.out j hj).trans (AP.out j hj).symm)).mono ?_; rintro e w5 ⟨rfl, hs⟩; have S5 := Lib.hid (since_step (S4.out.trans (since_mono Hb.out S4.out.size)) hs); have G5 := Lib.hid (((G4.out.since Hb.out).since (since_mono hs Hb.out.size)).more (Nat.le_trans Hb.out.size hs.size)); clear hs GP AP Hb Ha P4 G4 F1 S4))
    go_wp2_with fail
    refine (b10At_any B m d ys 0 64 w5 ((HB.out.since S5.out (Nat.le_refl _)).more S5.out.size) (by omega) (by omega)).mono ?_
    rintro e w6 ⟨z_, rfl, a1_, a2_, hs⟩
    obtain ⟨f, rfl⟩ := Int.eq_ofNat_of_zero_le a1_
    have hf := a2_ (by omega)
    have S6 := Lib.hid (since_step S5.out hs)
    have G6 := Lib.hid ((G5.out.since hs).more hs.size)
    clear hs a1_ a2_ S5
    go_wp2_with fail
    refine (b10At_any B m d ys 1 64 w6 ((HB.out.since S6.out (Nat.le_refl _)).more S6.out.size) (by omega) (by omega)).mono ?_
    rintro e w7 ⟨z_, rfl, a1_, a2_, hs⟩
    obtain ⟨st, rfl⟩ := Int.eq_ofNat_of_zero_le a1_
    have hst := a2_ (by omega)
    have S7 := Lib.hid (since_step S6.out hs)
    have G7 := Lib.hid ((G6.out.since hs).more hs.size)
    clear hs a1_ a2_ S6
    go_wp2_with fail
    refine (b10At_any B m d ys 2 20 w7 ((HB.out.since S7.out (Nat.le_refl _)).more S7.out.size) (by omega) (by omega)).mono ?_
    rintro e w8 ⟨z_, rfl, a1_, a2_, hs⟩
    obtain ⟨ct, rfl⟩ := Int.eq_ofNat_of_zero_le a1_
    have hct := a2_ (by omega)
    have S8 := Lib.hid (since_step S7.out hs)
    have G8 := Lib.hid ((G7.out.since hs).more hs.size)
    clear hs a1_ a2_ S7
    go_wp2_with fail
    refine (b10At_any B m d ys 3 ((ct : Int) + 1) w8 ((HB.out.since S8.out (Nat.le_refl _)).more S8.out.size) (by omega) (by omega)).mono ?_
    rintro e w9 ⟨z_, rfl, a1_, a2_, hs⟩
    obtain ⟨cu, rfl⟩ := Int.eq_ofNat_of_zero_le a1_
    have hcu := a2_ (by omega)
    have S9 := Lib.hid (since_step S8.out hs)
    have G9 := Lib.hid ((G8.out.since hs).more hs.size)
    clear hs a1_ a2_ S8
    clear G5 G6 G7 G8
    have hcc : cu ≤ ct := by omega
    have hnl : 0 ≤ (ct : Int) * (4096 * (st : Int)) ∧ (ct : Int) * (4096 * (st : Int)) ≤ 5000000 := by
      have h1 : ct * (4096 * st) ≤ 19 * 258048 := Nat.mul_le_mul (by omega) (by omega)
      have h2 : ((ct * (4096 * st) : Nat) : Int) = (ct : Int) * (4096 * (st : Int)) := by push_cast; rfl
      omega
    have hpl : ∀ j, j ≤ ct → plc id (4096 * f) (4096 * st) j ≤ 16777216 := fun j hj => by
      rw [plc_id]
      have h1 : 4096 * st * j ≤ 258048 * 19 := Nat.mul_le_mul (by omega) (by omega)
      omega
    have hend : (4096 * (f : Int) + (ct : Int) * (4096 * (st : Int))) = (plc id (4096 * f) (4096 * st) ct : Nat) := by
      rw [plc_id]; push_cast; rw [Int.mul_comm (4096 * (st : Int)) (ct : Int)]
    obtain ⟨md, hmd⟩ : ∃ md : Nat, Hid (plc id (4096 * f) (4096 * st) cu = md) := ⟨_, Lib.hid rfl⟩
    have hmd1 : md ≤ 16777216 := hmd.out ▸ hpl cu hcc
    obtain ⟨Y1, hY1⟩ : ∃ Y : Nat → O, Hid (Y = plY (smp (q + 1) (fun j => ab .f32 (wd zs j))) (plc id (4096 * f) (4096 * st))) := ⟨_, Lib.hid rfl⟩
    have hend2 : (4096 * (f : Int) + (ct : Int) * (4096 * (st : Int))) = (plc id md (4096 * st) (ct - cu) : Nat) := by
      rw [hend, ← hmd.out, plc_cut, show cu + (ct - cu) = ct by omega]
    have hd1 := Lib.hid hend; have hd2 := Lib.hid hend2; have hpp := Lib.hid hpl; clear hend hend2 hpl
    have K1 := Lib.hid (recI (some ⟨g, 0, none⟩) (q + 1) cp zs (4096 * (f : Int)) (4096 * (st : Int)) ct (4096 * (f : Int) + (ct : Int) * (4096 * (st : Int))) (4096 * f) (4096 * st) ct Y1 w9 G9.out (by push_cast; rfl) (by push_cast; rfl) rfl hd1.out (by omega) (by omega) (by omega) (by omega) (by omega) (fun k hk => by rw [hY1.out]))
    go_wp2_with fail
    refine K1.out.mono ?_
    rintro e w10 ⟨g1, c1, o1, rfl, hc1, hg1, hf1, hs⟩
    have S10 := Lib.hid (since_step S9.out hs)
    have G10 := Lib.hid ((G9.out.since hs).more hs.size)
    have P10 := Lib.hid hg1.read; have F1 := Lib.hid hf1
    clear hs hg1 hf1 S9 G9 K1
    have K2 := Lib.hid (recI (some ⟨g, 0, none⟩) (q + 1) cp zs (4096 * (f : Int)) (4096 * (st : Int)) cu (md : Int) (4096 * f) (4096 * st) cu Y1 w10 G10.out (by push_cast; rfl) (by push_cast; rfl) rfl (by rw [hmd.out]) (by omega) (by omega) (by omega) (by omega) (by omega) (fun k hk => by rw [hY1.out]))
    go_wp2_with fail
    refine K2.out.mono ?_
    rintro e w11 ⟨g2, c2, o2, rfl, hc2, hg2, hf2, hs⟩
    have S11 := Lib.hid (since_step S10.out hs)
    have G11 := Lib.hid ((G10.out.since hs).more hs.size)
    have P11 := Lib.hid ((P10.out.since hs).more hs.size)
    have Q11 := Lib.hid hg2.read; have F2 := Lib.hid hf2
    clear hs hg2 hf2 S10 G10 K2 P10
    have K3 := Lib.hid (recI (some ⟨g, 0, none⟩) (q + 1) cp zs (md : Int) (4096 * (st : Int)) ((ct : Int) - cu) (4096 * (f : Int) + (ct : Int) * (4096 * (st : Int))) md (4096 * st) (ct - cu) (fun k => Y1 (cu + k)) w11 G11.out rfl (by push_cast; rfl) (by omega) hd2.out (by omega) (by omega) hmd1 (by omega) (by omega) (fun k hk => by rw [hY1.out, ← hmd.out, plY_cut]))
    go_wp2_with fail
    refine K3.out.mono ?_
    rintro e w12 ⟨g3, c3, o3, rfl, hc3, hg3, hf3, hs⟩
    have S12 := Lib.hid (since_step S11.out hs)
    have G12 := Lib.hid ((G11.out.since hs).more hs.size)
    have P12 := Lib.hid ((P11.out.since hs).more hs.size)
    have Q12 := Lib.hid ((Q11.out.since hs).more hs.size)
    have R12 := Lib.hid hg3.read; have F3 := Lib.hid hf3
    clear hs hg3 hf3 S11 G11 K3 P11 Q11
    go_wp2_with (first
      | (at_builtin; refine wpList_yes rfl ?_; refine wpList_appN rfl (.tmp 125) (.tmp 126) rfl w12.heap.size _ 0 Y1 rfl _ _ _ o2 _ rfl (by simp) (Lib.hid (Q12.out.since ((World.Since.refl _ _).alloc (Nat.le_refl _) _))) (fun j hj => by rw [Nat.zero_add]; exact (F2.out j hj).symm) (by omega) (by simp) (Rw.start w12 _ (Nat.le_refl _) _) ?_; intro v1 wa hRa hSa; have Ha := Lib.hid (((World.Since.refl w12.heap.size w12).alloc (Nat.le_refl _) _).trans hSa.out); clear hSa)
      | (at_builtin; refine wpList_yes rfl ?_; refine wpList_appN rfl (.tmp 127) (.tmp 128) rfl w12.heap.size _ (0 + cu) Y1 rfl _ _ _ o3 _ rfl (by simp) (Lib.hid (R12.out.since Ha.out)) (fun j hj => by rw [Nat.zero_add]; exact (F3.out j hj).symm) (by omega) Ha.out.size hRa.out ?_; intro v2 wb hRb hSb; have Hb := Lib.hid (Ha.out.trans hSb.out); clear hSb; obtain ⟨⟨pA, pn, px⟩, cq, rfl, hpn, hgp, hap⟩ := hRb.out.done; simp only at hpn hgp; have hpk : ct = pn := (by omega); subst hpk; have GP := Lib.hid hgp.read; have AP := Lib.hid hap; clear hgp hap hRa hRb hpn)
      | (go_at_call 39; refine (b10Same_any _ _ ct _ _ px o1 wb GP.out ((P12.out.since Hb.out).more Hb.out.size) (by omega) (fun j hj => (AP.out j hj).trans (F1.out j hj).symm)).mono ?_; rintro e w13 ⟨rfl, hs⟩; have S13 := Lib.hid (since_step (S12.out.trans (since_mono Hb.out S12.out.size)) hs); have G13 := Lib.hid (((G12.out.since Hb.out).since (since_mono hs Hb.out.size)).more (Nat.le_trans Hb.out.size hs.size)); clear hs GP AP Hb Ha P12 Q12 R12 G12 F1 F2 F3 S12))
    go_wp2_with fail
    refine (b10At_any B m d ys 4 (1 + (q : Int)) w13 ((HB.out.since S13.out (Nat.le_refl _)).more S13.out.size) (by omega) (by omega)).mono ?_
    rintro e w14 ⟨z_, rfl, a1_, a2_, hs⟩
    obtain ⟨be, rfl⟩ := Int.eq_ofNat_of_zero_le a1_
    have hbe := a2_ (by omega)
    have S14 := Lib.hid (since_step S13.out hs)
    have G14 := Lib.hid ((G13.out.since hs).more hs.size)
    clear hs a1_ a2_ S13
    go_wp2_with fail
    refine (b10At_any B m d ys 5 (1 + (be : Int)) w14 ((HB.out.since S14.out (Nat.le_refl _)).more S14.out.size) (by omega) (by omega)).mono ?_
    rintro e w15 ⟨z_, rfl, a1_, a2_, hs⟩
    obtain ⟨fi, rfl⟩ := Int.eq_ofNat_of_zero_le a1_
    have hfi := a2_ (by omega)
    have S15 := Lib.hid (since_step S14.out hs)
    have G15 := Lib.hid ((G14.out.since hs).more hs.size)
    clear hs a1_ a2_ S14
    clear G13 G14
    have hfb : fi < be + 1 := by omega
    have K4 := Lib.hid (loopI (some ⟨g, 0, none⟩) (q + 1) cp zs (fi : Int) (1 + (be : Int)) fi (be + 1) w15 G15.out rfl (by omega) (by omega) (by omega) hfb)
    go_wp2_with fail
    refine K4.out.mono ?_
    rintro e w16 ⟨z, g4, c4, o4, rfl, hc4, hg4, hf4, hs⟩
    have S16 := Lib.hid (since_step S15.out hs)
    have G16 := Lib.hid ((G15.out.since hs).more hs.size)
    have P16 := Lib.hid hg4.read; have F4 := Lib.hid hf4
    clear hs hg4 hf4 S15 G15 K4
    go_wp2_with fail
    go_loopw [28, 29] (fun a i wr => ∃ k : Nat, k ≤ 40 ∧ i = .int .i64 (k : Int) ∧ a = .int .i64 (lpA fi (be + 1) k : Nat) ∧ w16.Since w16.heap.size wr) (fun _ i _ => 40 - (intOf i).toNat)
    case atStart => exact ⟨0, Nat.zero_le _, rfl, rfl, World.Since.refl _ _⟩
    case round =>
      obtain ⟨k, hk, rfl, rfl, hs⟩ := hrel
      have SW := Lib.hid hs; clear hs
      by_cases hlt : k < 40
      · have hI := lpI_of hfb k
        have hle := lpA_le hfb k
        have hil := lpI_lt hfb k
        have hA : Hid (lpA fi (be + 1) (k + 1) = lpI fi (be + 1) k + 1) := Lib.hid rfl
        obtain ⟨cz, bz⟩ := Fs.cell0 G16.out (k := lpI fi (be + 1) k) (by omega)
        obtain ⟨co, bo⟩ := Fs.cell0 P16.out hlt
        have kz : wr.cell? ⟨g, lpI fi (be + 1) k, none⟩ = some (.float .f32 (wd zs (lpI fi (be + 1) k))) := (SW.out.cell (a := ⟨g, _, none⟩) bz).trans cz
        have ko : wr.cell? ⟨g4, k, none⟩ = some (.float .f32 (wd o4 k)) := (SW.out.cell (a := ⟨g4, k, none⟩) bo).trans co
        clear cz co
        have hw1 := P16.out.2.1.at_ k
        have hw2 := G16.out.2.1.at_ (lpI fi (be + 1) k)
        have HQ : Hid (∀ v : World, Calls Try.prog 20 #[.float .f32 (wd o4 k), .float .f32 (wd zs (lpI fi (be + 1) k))] v fun e v' => e = .returned (.bool true) ∧ v' = v) := Lib.hid fun v => by
          have h9 := F4.out k hlt
          exact (specSame_any _ _ _ hw1 hw2).mono fun e v' ⟨h1, h2⟩ => ⟨by rw [h1, show ab .f32 (wd o4 k) = _ from h9, decide_eq_true rfl], h2.symm⟩
        clear hw1 hw2
        by_cases eb : lpA fi (be + 1) k = be + 1
        · rw [if_pos eb] at hI
          have hl2 := Lib.hid hI
          rw [hI] at kz hil HQ
          have eb2 : (((lpA fi (be + 1) k : Nat) : Int) == 1 + (be : Int)) = true := by rw [beq_iff_eq]; omega
          have eb3 : ((lpA fi (be + 1) k : Nat) : Int) = 1 + (be : Int) := by omega
          rw [hI] at hA
          clear hI eb hle
          generalize lpA fi (be + 1) k = la at *
          go_wp2_with fail
          go_quiet (first | (go_at_call 20; refine Calls.quiet_of_same (HQ.out _)))
          go_wp2
          go_roundw
          case rel => exact ⟨k + 1, by omega, by go_num, by rw [hA.out]; push_cast; rfl, since_drewN SW.out _⟩
          case measure => simp [intOf]; omega
        · rw [if_neg eb] at hI
          rw [hI] at kz hil HQ
          have eb2 : (((lpA fi (be + 1) k : Nat) : Int) == 1 + (be : Int)) = false := by rw [beq_eq_false_iff_ne]; omega
          have eb3 : ¬ ((lpA fi (be + 1) k : Nat) : Int) = 1 + (be : Int) := by omega
          rw [hI] at hA
          clear hI eb hle
          generalize lpA fi (be + 1) k = la at *
          go_wp2_with fail
          go_quiet (first | (go_at_call 20; refine Calls.quiet_of_same (HQ.out _)))
          go_wp2
          go_roundw
          case rel => exact ⟨k + 1, by omega, by go_num, by rw [hA.out]; push_cast; rfl, since_drewN SW.out _⟩
          case measure => simp [intOf]; omega
      · obtain rfl : k = 40 := by omega
        go_wp2
        go_ret
        exact ⟨rfl, since_step S16.out SW.out⟩
end Go.Proofs.Ytogbejgbaenfdaa

