/- Slices of floats that the call itself has made: written, and looked at again, by the laws. -/
import Derived.Test.YthcmboiccpdmjaaSa
set_option linter.unusedVariables false
set_option linter.unusedSimpArgs false
namespace Go.Proofs.Ythcmboiccpdmjaa
namespace Fl

/-- A slice (address A, length n) of the call's own, from block lo on, with the words xs; its cells may be written. T: the element's type. -/
def Gs (T : TypeId) (w : World) (lo : Nat) (A : Option Addr) (n : Nat) (xs : List Nat) : Prop :=
  xs.length = n ∧ Small xs ∧ (0 < n → ∃ g cs, A = some ⟨g, 0, none⟩ ∧ lo ≤ g ∧ w.heap[g]? = some (.cells cs T (0, 0)) ∧ ∀ k, k < n → cs[k]? = some (fv xs k))
section
variable {T : TypeId} {w w' : World} {lo n : Nat} {A : Option Addr} {xs : List Nat}
theorem Gs.read (h : Gs T w lo A n xs) : Fs w w.heap.size A n xs :=
  ⟨h.1, h.2.1, fun hn => by
    obtain ⟨g, cs, e, hg, hb, hc⟩ := h.2.2 hn
    refine ⟨g, 0, e, (Array.getElem?_eq_some_iff.1 hb).1, fun k hk => ?_⟩
    simp only [World.cell?, hb, Nat.zero_add]
    simpa using hc k hk⟩
theorem Gs.since (h : Gs T w lo A n xs) (hs : w.Since w.heap.size w') : Gs T w' lo A n xs :=
  ⟨h.1, h.2.1, fun hn => by
    obtain ⟨g, cs, e, hg, hb, hc⟩ := h.2.2 hn
    exact ⟨g, cs, e, hg, (hs.block g (Array.getElem?_eq_some_iff.1 hb).1).trans hb, hc⟩⟩
theorem Gs.drewN (h : Gs T w lo A n xs) (k : Nat) : Gs T (w.drewN k) lo A n xs := h
theorem Gs.less (h : Gs T w lo A n xs) {l : Nat} (hl : l ≤ lo) : Gs T w l A n xs :=
  ⟨h.1, h.2.1, fun hn => by
    obtain ⟨g, cs, e, hg, hb, hc⟩ := h.2.2 hn
    exact ⟨g, cs, e, by omega, hb, hc⟩⟩
theorem Gs.of_row {g : Nat} (h : w.rowIs g T n (fv xs)) (hl : xs.length = n) (hs : Small xs) (hg : lo ≤ g) : Gs T w lo (some ⟨g, 0, none⟩) n xs :=
  ⟨hl, hs, fun _ => by
    obtain ⟨cs, hb, _, hc⟩ := h
    exact ⟨g, cs, rfl, hg, hb, hc⟩⟩
theorem Gs.nil_ : Gs T w lo none 0 [] := ⟨rfl, (fun x hx => by cases hx), (fun h => by omega)⟩
end

/-- the words that a mark leaves: k, k + 1 and so on, as floats -/
def mk (k n : Nat) : List Nat := (List.range n).map fun j => floatOfInt .f32 ((k + j : Nat) : Int)
theorem mk_wd {k n j : Nat} (h : j < n) : wd (mk k n) j = floatOfInt .f32 ((k + j : Nat) : Int) := by
  unfold wd mk; simp [h]
theorem mk_small (k n : Nat) : Small (mk k n) := fun x hx => by
  obtain ⟨j, _, rfl⟩ := List.mem_map.1 hx
  exact FloatKind.f32.format.write_lt (.number (decide (((k + j : Nat) : Int) < 0)) (((k + j : Nat) : Int)).natAbs 0)
theorem mk_len (k n : Nat) : (mk k n).length = n := by unfold mk; simp
theorem ab_int (n : Int) : ab .f32 (floatOfInt .f32 n) = some (floatOfInt .f32 n)   := ab_write .f32 (d := .number (decide (n < 0)) n.natAbs 0) rfl
end Fl

open Fl Go.RowKit
/-- what has been marked so far -/
def marked (k : Nat) (xs : List Nat) (i j : Nat) : Value := if j < i then .float .f32 (floatOfInt .f32 ((k + j : Nat) : Int)) else fv xs j

theorem markF_any (A : Option Addr) (n c k0 : Nat) (xs : List Nat) (w : World) (lo : Nat) (h : Gs 31 w lo A n xs) (hn : n ≤ 1048576) (hk0 : k0 ≤ 1073741824) :
    Calls Try.prog 20 #[.slice A n c, .int .i64 k0] w fun e w' => e = .returned (.int .i64 (k0 + n : Nat)) ∧ Gs 31 w' lo A n (mk k0 n) ∧ w'.heap.size = w.heap.size ∧ w.Since lo w' ∧ (∀ g, (0 < n → ∀ g', A = some ⟨g', 0, none⟩ → g ≠ g') → w'.heap[g]? = w.heap[g]?) := by
  by_cases hpos : 0 < n
  · obtain ⟨g, cs, rfl, hg, hb, hc⟩ := h.2.2 hpos
    have HB := Lib.hid hb
    have HC := Lib.hid hc
    clear hb hc h
    go_enter Try.func20, Try.ntmps20
    go_wp2
    go_loopw [1, 5] (fun kv i wr => ∃ k : Nat, k ≤ n ∧ i = .int .i64 k ∧ kv = .int .i64 (k0 + k : Nat) ∧ (∃ cs', wr.heap[g]? = some (.cells cs' 31 (0, 0)) ∧ ∀ j, j < n → cs'[j]? = some (marked k0 xs k j)) ∧ wr.heap.size = w.heap.size ∧ w.Since lo wr ∧ (∀ b, b ≠ g → wr.heap[b]? = w.heap[b]?)) (fun _ i _ => n - (intOf i).toNat)
    case atStart => exact ⟨0, Nat.zero_le _, rfl, rfl, ⟨cs, HB.out, fun j hj => by unfold marked; rw [if_neg (by omega)]; exact HC.out j hj⟩, rfl, World.Since.refl _ _, fun _ _ => rfl⟩
    case round =>
      obtain ⟨k, hk, rfl, rfl, ⟨cs', hb', hc'⟩, hsz, hs, hoth⟩ := hrel
      have HB' := Lib.hid hb'
      have HC' := Lib.hid hc'
      have HZ := Lib.hid hsz
      have HS := Lib.hid hs
      have HO := Lib.hid hoth
      clear hb' hc' hsz hs hoth
      by_cases hlt : k < n
      · have hcell : wr.cell? ⟨g, k, none⟩ = some (marked k0 xs k k) := by
          simp only [World.cell?, HB'.out]
          simpa using HC'.out k hlt
        have hfr : wr.frozen? ⟨g, k, none⟩ = false := by simp [World.frozen?, HB'.out]
        go_wp2
        go_roundw
        case rel =>
          refine ⟨k + 1, by omega, by go_num, by go_num, ⟨cs'.setIfInBounds k (.float .f32 (floatOfInt .f32 ((k0 + k : Nat) : Int))), ?_, fun j hj => ?_⟩, by rw [Go.Deep.nblk_setCell]; exact HZ.out, HS.out.setCell hg _, fun b hb => ?_⟩
          · simp [World.setCell, Array.getElem?_modify, HB'.out]
          · rw [Array.getElem?_setIfInBounds]
            have hsz2 : j < cs'.size := (Array.getElem?_eq_some_iff.1 (HC'.out j hj)).1
            by_cases e : k = j
            · subst e
              rw [if_pos rfl, if_pos hsz2]
              unfold marked; rw [if_pos (by omega)]
            · rw [if_neg e, HC'.out j hj]
              unfold marked
              by_cases e2 : j < k
              · rw [if_pos e2, if_pos (by omega)]
              · rw [if_neg e2, if_neg (by omega)]
          · rw [Go.Deep.blk_setCell_other _ _ _ _ hb]
            exact HO.out b hb
        case measure => simp [intOf]; omega
      · obtain rfl : k = n := by omega
        go_wp2
        go_ret
        refine ⟨rfl, ⟨mk_len _ _, mk_small _ _, fun _ => ⟨g, cs', rfl, hg, HB'.out, fun j hj => ?_⟩⟩, HZ.out, HS.out, fun b hb => HO.out b (hb (by omega) g rfl)⟩
        rw [HC'.out j hj]
        unfold marked fv; rw [if_pos hj, mk_wd hj]
  · obtain rfl : n = 0 := by omega
    go_enter Try.func20, Try.ntmps20
    go_wp2
    go_loopw [1, 5] (fun kv i wr => i = .int .i64 0 ∧ kv = .int .i64 k0 ∧ wr = w) (fun _ _ _ => 0)
    case atStart => exact ⟨rfl, rfl, rfl⟩
    case round =>
      obtain ⟨rfl, rfl, rfl⟩ := hrel
      go_wp2
      go_ret
      exact ⟨rfl, ⟨rfl, (fun x hx => by cases hx), (fun h => by omega)⟩, rfl, World.Since.refl _ _, fun _ _ => rfl⟩

theorem heldF_any (A : Option Addr) (n c k0 : Nat) (w : World) (B : Nat) (h : Fs w B A n (mk k0 n)) (hn : n ≤ 1048576) (hk0 : k0 ≤ 1073741824) :
    Calls Try.prog 22 #[.slice A n c, .int .i64 k0] w fun e w' => e = .returned (.int .i64 (k0 + n : Nat)) ∧ w = w' := by
  have H := Lib.hid h
  clear h
  go_enter Try.func22, Try.ntmps22
  go_wp2
  go_loop [1, 5] (fun kv i => ∃ k : Nat, k ≤ n ∧ i = .int .i64 k ∧ kv = .int .i64 (k0 + k : Nat)) (fun _ i => n - (intOf i).toNat)
  case atStart => exact ⟨0, Nat.zero_le _, rfl, rfl⟩
  case round =>
    obtain ⟨k, hk, rfl, rfl⟩ := hrel
    by_cases hlt : k < n
    · obtain ⟨g, off, rfl, hg, hc1⟩ := H.out.2.2 (by omega)
      have hcell : w.cell? ⟨g, off + k, none⟩ = some (.float .f32 (floatOfInt .f32 ((k0 + k : Nat) : Int))) := by
        have := hc1 k hlt
        unfold fv at this; rw [mk_wd hlt] at this; exact this
      have ec : ((k0 + k : Nat) : Int) = (k0 : Int) + (k : Int) := by omega
      rw [ec] at hcell
      have ho : FloatKind.f32.format.order (floatOfInt .f32 ((k0 : Int) + (k : Int))) (floatOfInt .f32 ((k0 : Int) + (k : Int))) = some .eq := ord_self _ (ab_int _)
      clear ec
      clear hc1
      go_wp2
      go_round
      case rel => exact ⟨k + 1, by omega, by go_num, by go_num⟩
      case measure => simp [intOf]; omega
    · obtain rfl : k = n := by omega
      go_wp2
      go_ret
      exact ⟨rfl, rfl⟩
end Go.Proofs.Ythcmboiccpdmjaa
