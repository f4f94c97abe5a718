/- Lists of int64 as a law holds them: copied, compared, marked. -/
import Derived.Test.YtcpcfgdncinpgaaSg
import Derived.Test.YtcpcfgdncinpgaaLq
set_option linter.unusedVariables false
set_option linter.unusedSimpArgs false
namespace Go.Proofs.Ytcpcfgdncinpgaa
namespace Fl
def wi (xs : List Int) (j : Nat) : Int := xs.getD j 0
def iv (xs : List Int) (j : Nat) : Value := .int .i64 (wi xs j)
def mki (k n : Nat) : List Int := (List.range n).map fun j => ((k + j : Nat) : Int)
theorem mki_wi {k n j : Nat} (h : j < n) : wi (mki k n) j = ((k + j : Nat) : Int) := by unfold wi mki; simp [h]
theorem mki_len (k n : Nat) : (mki k n).length = n := by unfold mki; simp
def Is (w : World) (B : Nat) (A : Option Addr) (n : Nat) (xs : List Int) : Prop :=
  xs.length = n ∧ (0 < n → ∃ g off, A = some ⟨g, off, none⟩ ∧ g < B ∧ ∀ k, k < n → w.cell? ⟨g, off + k, none⟩ = some (iv xs k))

theorem Is.keep {w w' : World} {B : Nat} {A : Option Addr} {n : Nat} {xs : List Int} (h : Is w B A n xs) (hk : ∀ g o, g < B → w'.cell? ⟨g, o, none⟩ = w.cell? ⟨g, o, none⟩) : Is w' B A n xs :=
  ⟨h.1, fun hn => by
    obtain ⟨g, off, e, hg, hc⟩ := h.2 hn
    exact ⟨g, off, e, hg, fun k hk' => (hk g _ hg).trans (hc k hk')⟩⟩
theorem Is.more {w : World} {B B' : Nat} {A : Option Addr} {n : Nat} {xs : List Int} (h : Is w B A n xs) (hB : B ≤ B') : Is w B' A n xs :=
  ⟨h.1, fun hn => by
    obtain ⟨g, off, e, hg, hc⟩ := h.2 hn
    exact ⟨g, off, e, by omega, hc⟩⟩
theorem Is.since {w w' : World} {B : Nat} {A : Option Addr} {n : Nat} {xs : List Int} (h : Is w B A n xs) (hs : w.Since B w') : Is w' B A n xs :=
  h.keep fun g o hg => hs.cell (a := ⟨g, o, none⟩) hg
theorem Is.drewN {w : World} {B : Nat} {A : Option Addr} {n : Nat} {xs : List Int} (h : Is w B A n xs) (k : Nat) : Is (w.drewN k) B A n xs := h
theorem Is.now {w w1 : World} {A : Option Addr} {n : Nat} {xs : List Int} (h : Is w w.heap.size A n xs) (s : w.Since w.heap.size w1) : Is w1 w1.heap.size A n xs := (h.since s).more s.size
theorem Is.of_row {w : World} {g : Nat} {t : TypeId} {n : Nat} {xs : List Int} {B : Nat} (h : w.rowIs g t n (iv xs)) (hl : xs.length = n) (hg : g < B) : Is w B (some ⟨g, 0, none⟩) n xs :=
  ⟨hl, fun _ => ⟨g, 0, rfl, hg, fun k hk => by rw [Nat.zero_add]; exact h.cell hk⟩⟩

def IGs (T : TypeId) (w : World) (lo : Nat) (A : Option Addr) (n : Nat) (xs : List Int) : Prop :=
  xs.length = n ∧ (0 < n → ∃ g cs, A = some ⟨g, 0, none⟩ ∧ lo ≤ g ∧ w.heap[g]? = some (.cells cs T (0, 0)) ∧ ∀ k, k < n → cs[k]? = some (iv xs k))
section
variable {T : TypeId} {w w' : World} {lo n : Nat} {A : Option Addr} {xs : List Int}
theorem IGs.read (h : IGs T w lo A n xs) : Is w w.heap.size A n xs :=
  ⟨h.1, fun hn => by
    obtain ⟨g, cs, e, hg, hb, hc⟩ := h.2 hn
    refine ⟨g, 0, e, (Array.getElem?_eq_some_iff.1 hb).1, fun k hk => ?_⟩
    simp only [World.cell?, hb, Nat.zero_add]
    simpa using hc k hk⟩
theorem IGs.since (h : IGs T w lo A n xs) (hs : w.Since w.heap.size w') : IGs T w' lo A n xs :=
  ⟨h.1, fun hn => by
    obtain ⟨g, cs, e, hg, hb, hc⟩ := h.2 hn
    exact ⟨g, cs, e, hg, (hs.block g (Array.getElem?_eq_some_iff.1 hb).1).trans hb, hc⟩⟩
theorem IGs.drewN (h : IGs T w lo A n xs) (k : Nat) : IGs T (w.drewN k) lo A n xs := h
theorem IGs.less (h : IGs T w lo A n xs) {l : Nat} (hl : l ≤ lo) : IGs T w l A n xs :=
  ⟨h.1, fun hn => by
    obtain ⟨g, cs, e, hg, hb, hc⟩ := h.2 hn
    exact ⟨g, cs, e, by omega, hb, hc⟩⟩
theorem IGs.of_row {g : Nat} (h : w.rowIs g T n (iv xs)) (hl : xs.length = n) (hg : lo ≤ g) : IGs T w lo (some ⟨g, 0, none⟩) n xs :=
  ⟨hl, fun _ => by
    obtain ⟨cs, hb, _, hc⟩ := h
    exact ⟨g, cs, rfl, hg, hb, hc⟩⟩
theorem IGs.nil_ : IGs T w lo none 0 [] := ⟨rfl, (fun h => by omega)⟩
end
end Fl
open Fl Go.RowKit
theorem Try.infoI : (Try.prog.info? 2).map (fun i => (i.zero, i.size, i.bytes)) = some (some (.int .i64 0), 1, 8) := by kernel_rfl

def ipart (xs : List Int) (k j : Nat) : Value := if j < k then iv xs j else .int .i64 0

def imarked (k : Nat) (xs : List Int) (i j : Nat) : Value := if j < i then .int .i64 ((k + j : Nat) : Int) else iv xs j

theorem markI_any (A : Option Addr) (n c k0 : Nat) (xs : List Int) (w : World) (lo : Nat) (h : IGs 2 w lo A n xs) (hn : n ≤ 1048576) (hk0 : k0 ≤ 1073741824) :
    Calls Try.prog 44 #[.slice A n c, .int .i64 k0] w fun e w' => e = .returned (.int .i64 (k0 + n : Nat)) ∧ IGs 2 w' lo A n (mki k0 n) ∧ w'.heap.size = w.heap.size ∧ w.Since lo w' ∧ (∀ g, (0 < n → ∀ g', A = some ⟨g', 0, none⟩ → g ≠ g') → w'.heap[g]? = w.heap[g]?) := by
  by_cases hpos : 0 < n
  · obtain ⟨g, cs, rfl, hg, hb, hc⟩ := h.2 hpos
    have HB := Lib.hid hb
    have HC := Lib.hid hc
    clear hb hc h
    go_enter Try.func44, Try.ntmps44
    go_wp2
    go_loopw [1, 5] (fun kv i wr => ∃ k : Nat, k ≤ n ∧ i = .int .i64 k ∧ kv = .int .i64 (k0 + k : Nat) ∧ (∃ cs', wr.heap[g]? = some (.cells cs' 2 (0, 0)) ∧ ∀ j, j < n → cs'[j]? = some (imarked k0 xs k j)) ∧ wr.heap.size = w.heap.size ∧ w.Since lo wr ∧ (∀ b, b ≠ g → wr.heap[b]? = w.heap[b]?)) (fun _ i _ => n - (intOf i).toNat)
    case atStart => exact ⟨0, Nat.zero_le _, rfl, rfl, ⟨cs, HB.out, fun j hj => by unfold imarked; rw [if_neg (by omega)]; exact HC.out j hj⟩, rfl, World.Since.refl _ _, fun _ _ => rfl⟩
    case round =>
      obtain ⟨k, hk, rfl, rfl, ⟨cs', hb', hc'⟩, hsz, hs, hoth⟩ := hrel
      have HB' := Lib.hid hb'
      have HC' := Lib.hid hc'
      have HZ := Lib.hid hsz
      have HS := Lib.hid hs
      have HO := Lib.hid hoth
      clear hb' hc' hsz hs hoth
      by_cases hlt : k < n
      · have hcell : wr.cell? ⟨g, k, none⟩ = some (imarked k0 xs k k) := by
          simp only [World.cell?, HB'.out]
          simpa using HC'.out k hlt
        have hfr : wr.frozen? ⟨g, k, none⟩ = false := by simp [World.frozen?, HB'.out]
        go_wp2
        go_roundw
        case rel =>
          refine ⟨k + 1, by omega, by go_num, by go_num, ⟨cs'.setIfInBounds k (.int .i64 ((k0 + k : Nat) : Int)), ?_, fun j hj => ?_⟩, by rw [Go.Deep.nblk_setCell]; exact HZ.out, HS.out.setCell hg _, fun b hb => ?_⟩
          · simp [World.setCell, Array.getElem?_modify, HB'.out]
          · rw [Array.getElem?_setIfInBounds]
            have hsz2 : j < cs'.size := (Array.getElem?_eq_some_iff.1 (HC'.out j hj)).1
            by_cases e : k = j
            · subst e
              rw [if_pos rfl, if_pos hsz2]
              unfold imarked; rw [if_pos (by omega)]
            · rw [if_neg e, HC'.out j hj]
              unfold imarked
              by_cases e2 : j < k
              · rw [if_pos e2, if_pos (by omega)]
              · rw [if_neg e2, if_neg (by omega)]
          · rw [Go.Deep.blk_setCell_other _ _ _ _ hb]
            exact HO.out b hb
        case measure => simp [intOf]; omega
      · obtain rfl : k = n := by omega
        go_wp2
        go_ret
        refine ⟨rfl, ⟨mki_len _ _, fun _ => ⟨g, cs', rfl, hg, HB'.out, fun j hj => ?_⟩⟩, HZ.out, HS.out, fun b hb => HO.out b (hb (by omega) g rfl)⟩
        rw [HC'.out j hj]
        unfold imarked iv; rw [if_pos hj, mki_wi hj]
  · obtain rfl : n = 0 := by omega
    go_enter Try.func44, Try.ntmps44
    go_wp2
    go_loopw [1, 5] (fun kv i wr => i = .int .i64 0 ∧ kv = .int .i64 k0 ∧ wr = w) (fun _ _ _ => 0)
    case atStart => exact ⟨rfl, rfl, rfl⟩
    case round =>
      obtain ⟨rfl, rfl, rfl⟩ := hrel
      go_wp2
      go_ret
      exact ⟨rfl, ⟨rfl, (fun h => by omega)⟩, rfl, World.Since.refl _ _, fun _ _ => rfl⟩

set_option maxHeartbeats 8000000 in
/-- Two slices with the same numbers are equal to the law. -/
theorem eqI_any (A C : Option Addr) (n c d : Nat) (xs : List Int) (w : World) (B : Nat) (ha : Is w B A n xs) (hc : Is w B C n xs) (hn : n ≤ 1048576) :
    Calls Try.prog 43 #[.slice A n c, .slice C n d] w fun e w' => e = .returned (.bool true) ∧ ∃ m, w' = w.drewN m := by
  have HA := Lib.hid ha
  have HC := Lib.hid hc
  clear ha hc
  go_enter Try.func43, Try.ntmps43
  go_wp2
  go_loopw [5] (fun i wr => ∃ k m : Nat, k ≤ n ∧ i = .int .i64 k ∧ wr = w.drewN m) (fun i _ => n - (intOf i).toNat)
  case atStart => exact ⟨0, 0, Nat.zero_le _, rfl, rfl⟩
  case round =>
    obtain ⟨k, m, hk, rfl, rfl⟩ := hrel
    by_cases hlt : k < n
    · obtain ⟨g, off, rfl, hg, hc1⟩ := HA.out.2 (by omega)
      obtain ⟨g', off', rfl, hg', hc2⟩ := HC.out.2 (by omega)
      have hcell : w.cell? ⟨g, off + k, none⟩ = some (.int .i64 (wi xs k)) := hc1 k hlt
      have hcell2 : w.cell? ⟨g', off' + k, none⟩ = some (.int .i64 (wi xs k)) := hc2 k hlt
      clear hc1 hc2
      go_wp2
      refine Lo.wp_loose_all [] (by kernel_rfl) (by kernel_rfl) ?_
      repeat (first
        | (refine Lo.wpL_move rfl _ (.inl rfl) (by decide) ?_; simp only [Act.put, List.setIfInBounds_toArray, List.set_cons_succ, List.set_cons_zero])
        | (refine Lo.wpL_move rfl _ (.inr rfl) (by decide) ?_; simp only [Act.put, List.setIfInBounds_toArray, List.set_cons_succ, List.set_cons_zero])
        | (refine Lo.wpL_fop rfl _ _ _ _ rfl rfl (by decide) _ _ _ _ _ rfl rfl (by assumption) (by assumption) ?_; intro rr hrr; simp only [Act.put, List.setIfInBounds_toArray, List.set_cons_succ, List.set_cons_zero])
        | (refine Lo.wpL_wide rfl _ _ _ rfl (by decide) _ _ rfl (by kernel_rfl) (by kernel_rfl) (by assumption) ?_; intro rr hrr; simp only [Act.put, List.setIfInBounds_toArray, List.set_cons_succ, List.set_cons_zero])
        | (refine Lo.wpL_quiet rfl (by decide) (fun K hK => ?_); go_big_quiet_op; (refine hK _ ?_; clear hK K)))
      refine Lo.wpL_nil ?_
      refine Lo.after_nil ?_; intro nq
      go_wp2
      go_roundw
      case rel => exact ⟨k + 1, _, by omega, by go_num, rfl⟩
      case measure => simp [intOf]; omega
    · go_wp2
      go_ret
      exact ⟨rfl, m, rfl⟩
end Go.Proofs.Ytcpcfgdncinpgaa
