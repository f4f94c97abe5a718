/- The laws' helpers on slices of floats: a copy, and a comparison. -/
import Derived.Test.YtcpcfgdncinpgaaSf
import Derived.Test.YtcpcfgdncinpgaaSm
import Derived.RegionTactic
import Derived.BigRegion
import Derived.Deep.QuietTactic
import Derived.BigQuiet
import Derived.Deep.RegionWith
import Derived.Lib.Hide
set_option linter.unusedVariables false
set_option linter.unusedSimpArgs false
namespace Go.Proofs.Ytcpcfgdncinpgaa
open Fl Go.RowKit

theorem Try.infoF : (Try.prog.info? 23).map (fun i => (i.zero, i.size, i.bytes)) = some (some (.float .f32 0), 1, 4) := by kernel_rfl

/-- what a copy's row holds when k words have been copied -/
def part (xs : List Nat) (k j : Nat) : Value := if j < k then fv xs j else .float .f32 0

theorem toF_any (A : Option Addr) (n c : Nat) (xs : List Nat) (w : World) (h : Fs w w.heap.size A n xs) (hn : n ≤ 1048576) :
    Calls Try.prog 16 #[.slice A n c] w fun e w' => e = .returned (.slice (some ⟨w.heap.size, 0, none⟩) n n) ∧ w'.rowIs w.heap.size 23 n (fv xs) ∧ w.Since w.heap.size w' ∧ w'.heap.size = w.heap.size + 1 := by
  have hmk := fun W => run_make_row' (P := Try.prog) 22 23 (.float .f32 0) 4 Try.underlying22 Try.infoF rfl .i64 .i64 n (by omega) (by omega) W
  have H := Lib.hid h
  clear h
  go_enter Try.func16, Try.ntmps16
  go_wp2
  go_loopw [4] (fun i wr => ∃ k : Nat, k ≤ n ∧ i = .int .i64 k ∧ wr.rowIs w.heap.size 23 n (part xs k) ∧ w.Since w.heap.size wr ∧ wr.heap.size = w.heap.size + 1) (fun i _ => n - (intOf i).toNat)
  case atStart =>
    exact ⟨0, Nat.zero_le _, rfl, (World.rowIs_made w (.float .f32 0) n 23).congr (fun j _ => by simp [part]), (World.Since.refl _ _).alloc (Nat.le_refl _) _, by simp⟩
  case round =>
    obtain ⟨k, hk, rfl, hrow, hs, hsz⟩ := hrel
    have HR := Lib.hid hrow
    have HS := Lib.hid hs
    have HZ := Lib.hid hsz
    clear hrow hs hsz
    by_cases hlt : k < n
    · obtain ⟨g, off, rfl, hg, hc⟩ := H.out.2.2 (by omega)
      have hcell : wr.cell? ⟨g, off + k, none⟩ = some (.float .f32 (wd xs k)) := (HS.out.cell (a := ⟨g, off + k, none⟩) hg).trans (hc k hlt)
      have hcell2 : wr.cell? ⟨w.heap.size, k, none⟩ = some (part xs k k) := HR.out.cell hlt
      have hfr : wr.frozen? ⟨w.heap.size, k, none⟩ = false := HR.out.frozen k
      clear hc
      go_wp2
      go_roundw
      case rel =>
        refine ⟨k + 1, by omega, by go_num, (HR.out.set k _).congr (fun j hj => ?_), HS.out.setCell (Nat.le_refl _) _, by rw [Go.Deep.nblk_setCell]; exact HZ.out⟩
        unfold part
        by_cases e : j = k
        · subst e; rw [if_pos rfl, if_pos (by omega)]; rfl
        · rw [if_neg e]
          by_cases e2 : j < k
          · rw [if_pos e2, if_pos (by omega)]
          · rw [if_neg e2, if_neg (by omega)]
      case measure => simp [intOf]; omega
    · go_wp2
      go_ret
      exact ⟨rfl, HR.out.congr (fun j hj => by unfold part; rw [if_pos (by omega)]), HS.out, HZ.out⟩

set_option maxHeartbeats 8000000 in
/-- Two slices whose words stand for the same are equal to the law. -/
theorem eqF_any (A C : Option Addr) (n c d : Nat) (xs ys : List Nat) (w : World) (B : Nat) (ha : Fs w B A n xs) (hc : Fs w B C n ys) (hn : n ≤ 1048576)
    (hs : ∀ k, k < n → ab .f32 (wd xs k) = ab .f32 (wd ys k)) :
    Calls Try.prog 19 #[.slice A n c, .slice C n d] w fun e w' => e = .returned (.bool true) ∧ ∃ m, w' = w.drewN m := by
  have HA := Lib.hid ha
  have HC := Lib.hid hc
  have HS := Lib.hid hs
  clear ha hc hs
  go_enter Try.func19, Try.ntmps19
  go_wp2
  go_loopw [5] (fun i wr => ∃ k m : Nat, k ≤ n ∧ i = .int .i64 k ∧ wr = w.drewN m) (fun i _ => n - (intOf i).toNat)
  case atStart => exact ⟨0, 0, Nat.zero_le _, rfl, rfl⟩
  case round =>
    obtain ⟨k, m, hk, rfl, rfl⟩ := hrel
    by_cases hlt : k < n
    · obtain ⟨g, off, rfl, hg, hc1⟩ := HA.out.2.2 (by omega)
      obtain ⟨g', off', rfl, hg', hc2⟩ := HC.out.2.2 (by omega)
      have hcell : w.cell? ⟨g, off + k, none⟩ = some (.float .f32 (wd xs k)) := hc1 k hlt
      have hcell2 : w.cell? ⟨g', off' + k, none⟩ = some (.float .f32 (wd ys k)) := hc2 k hlt
      have hw1 := run_wide (P := Try.prog) 23 28 (wd xs k) (by kernel_rfl) (by kernel_rfl)
      have hw2 := run_wide (P := Try.prog) 23 28 (wd ys k) (by kernel_rfl) (by kernel_rfl)
      have HE := Lib.hid (HS.out k hlt)
      clear hc1 hc2
      go_wp2
      go_region_with (go_at_call 18; refine (sameFloat_any _ _ (wide (ab .f32 (wd xs k))) _ (wv_fv _ _) (by rw [HE.out]; exact wv_fv _ _)).mono ?_; rintro e w' ⟨rfl, n1, rfl⟩)
      all_goals
        go_wp2
        go_roundw
        case rel => exact ⟨k + 1, _, by omega, by go_num, rfl⟩
        case measure => simp [intOf]; omega
    · go_wp2
      go_ret
      exact ⟨rfl, m, rfl⟩
end Go.Proofs.Ytcpcfgdncinpgaa
