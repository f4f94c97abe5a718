/- The laws' helpers on slices of floats: a copy, and a comparison. -/
import Derived.Test.YthcmboiccpdmjaaSf
import Derived.Test.YthcmboiccpdmjaaSm
import Derived.RegionTactic
import Derived.BigRegion
import Derived.Deep.QuietTactic
import Derived.BigQuiet
import Derived.Deep.RegionWith
import Derived.Lib.Hide
set_option linter.unusedVariables false
set_option linter.unusedSimpArgs false
namespace Go.Proofs.Ythcmboiccpdmjaa
open Fl Go.RowKit

theorem Try.infoF : (Try.prog.info? 31).map (fun i => (i.zero, i.size, i.bytes)) = some (some (.float .f32 0), 1, 4) := by kernel_rfl

/-- what a copy's row holds when k words have been copied -/
def part (xs : List Nat) (k j : Nat) : Value := if j < k then fv xs j else .float .f32 0

set_option maxHeartbeats 8000000 in
/-- Two slices whose words stand for the same are equal to the law. -/
theorem eqF_any (A C : Option Addr) (n c d : Nat) (xs ys : List Nat) (w : World) (B : Nat) (ha : Fs w B A n xs) (hc : Fs w B C n ys) (hn : n ≤ 1048576)
    (hs : ∀ k, k < n → ab .f32 (wd xs k) = ab .f32 (wd ys k)) :
    Calls Try.prog 24 #[.slice A n c, .slice C n d] w fun e w' => e = .returned (.bool true) ∧ ∃ m, w' = w.drewN m := by
  have HA := Lib.hid ha
  have HC := Lib.hid hc
  have HS := Lib.hid hs
  clear ha hc hs
  go_enter Try.func24, Try.ntmps24
  go_wp2
  go_loopw [5] (fun i wr => ∃ k m : Nat, k ≤ n ∧ i = .int .i64 k ∧ wr = w.drewN m) (fun i _ => n - (intOf i).toNat)
  case atStart => exact ⟨0, 0, Nat.zero_le _, rfl, rfl⟩
  case round =>
    obtain ⟨k, m, hk, rfl, rfl⟩ := hrel
    by_cases hlt : k < n
    · obtain ⟨g, off, rfl, hg, hc1⟩ := HA.out.2.2 (by omega)
      obtain ⟨g', off', rfl, hg', hc2⟩ := HC.out.2.2 (by omega)
      have hcell : w.cell? ⟨g, off + k, none⟩ = some (.float .f32 (wd xs k)) := hc1 k hlt
      have hcell2 : w.cell? ⟨g', off' + k, none⟩ = some (.float .f32 (wd ys k)) := hc2 k hlt
      have hw1 := run_wide (P := Try.prog) 31 49 (wd xs k) (by kernel_rfl) (by kernel_rfl)
      have hw2 := run_wide (P := Try.prog) 31 49 (wd ys k) (by kernel_rfl) (by kernel_rfl)
      have HE := Lib.hid (HS.out k hlt)
      clear hc1 hc2
      go_wp2
      go_region_with (go_at_call 26; refine (sameFloat_any _ _ (wide (ab .f32 (wd xs k))) _ (wv_fv _ _) (by rw [HE.out]; exact wv_fv _ _)).mono ?_; rintro e w' ⟨rfl, n1, rfl⟩)
      all_goals
        go_wp2
        go_roundw
        case rel => exact ⟨k + 1, _, by omega, by go_num, rfl⟩
        case measure => simp [intOf]; omega
    · go_wp2
      go_ret
      exact ⟨rfl, m, rfl⟩
end Go.Proofs.Ythcmboiccpdmjaa
