/- Dynamics: the model's lists: clipped samples, a fade. -/
import Derived.Test.YteggicdhgcecpaaEa
import Derived.Test.YteggicdhgcecpaaEc
set_option linter.unusedVariables false
set_option linter.unusedSimpArgs false
namespace Go.Proofs.Yteggicdhgcecpaa
open Fl Go.RowKit
set_option maxHeartbeats 4000000 in
set_option maxRecDepth 100000 in
theorem specClipS_ok (A : Option Addr) (n c : Nat) (xs : List Nat) (l : Nat) (L : O) (w : World) (hA : Fs w w.heap.size A n xs) (hn : n ≤ 256) (hl : Hid (Fv .f32 l L)) :
    Calls Try.prog 26 #[.slice A n c, .float .f32 l] w (PLB n (fun k => clipO (ab .f32 (wd xs k)) L) true w) := by
  have hfew : decide ((n : Int) ≤ 256) = true := decide_eq_true (by omega)
  have HA := Lib.hid hA
  clear hA
  go_enter Try.func26, Try.ntmps26
  go_wp2_with (first | (go_at_call 33; refine (specFew_any _ _ _ _ _ hfew).mono ?_; rintro e w' ⟨rfl, rfl⟩))
  go_loopw [6, 7] (fun v i wr => ∃ k : Nat, k ≤ n ∧ i = .int .i64 k ∧ Rw w.heap.size wr v k (fun k => clipO (ab .f32 (wd xs k)) L) ∧ w.Since w.heap.size wr) (fun _ i _ => n - (intOf i).toNat)
  case atStart => exact ⟨0, Nat.zero_le _, rfl, Rw.start w _ (Nat.le_refl _) _, (World.Since.refl _ _).alloc (Nat.le_refl _) _⟩
  case round =>
    obtain ⟨k, hk, rfl, hr, hs⟩ := hrel
    have HR := Lib.hid hr; have HS := Lib.hid hs
    clear hr hs
    by_cases hlt : k < n
    · obtain ⟨g, off, rfl, hg, hc⟩ := HA.out.2.2 (by omega)
      have hcell : wr.cell? ⟨g, off + k, none⟩ = some (.float .f32 (wd xs k)) := (HS.out.cell (a := ⟨g, off + k, none⟩) hg).trans (hc k hlt)
      have hx : Hid (Fv .f32 (wd xs k) (ab .f32 (wd xs k))) := Lib.hid ⟨HA.out.2.1.at_ k, rfl⟩
      have hsz := HS.out.size
      clear hc
      go_wp2_with (first | (go_at_call 51; refine (specClip_any _ _ _ _ _ hx hl).mono ?_; rintro e w2 ⟨r, rfl, hr2, rfl⟩) | (at_builtin; refine wpList_app1 rfl (.tmp 18) (.tmp 25) rfl w.heap.size _ k _ rfl _ _ rfl (by simp [go_sem]) (by omega) (by simp; omega) hr2 (HR.out.alloc _) ?_; intro v' w3 hR3 hS3))
      go_roundw
      case rel => exact ⟨k + 1, by omega, by go_num, hR3.out, HS.out.trans (((World.Since.refl _ _).alloc hsz _).trans hS3.out)⟩
      case measure => simp [intOf]; omega
    · obtain rfl : k = n := by omega
      obtain ⟨p, cp, rfl, rfl, hg, ha⟩ := HR.out.done
      have HG := Lib.hid hg; have HAA := Lib.hid ha; clear hg ha
      go_wp2
      go_ret2
      exact ⟨p, cp, rfl, rfl, HG.out, HAA.out, HS.out⟩
end Go.Proofs.Yteggicdhgcecpaa
