/- Draws: lists that a law compares, and the bytes of a law. -/
import Derived.Test.YtlpbpljdfflgeaaHg
import Derived.Test.YtlpbpljdfflgeaaJk
set_option linter.unusedVariables false
set_option linter.unusedSimpArgs false
namespace Go.Proofs.Ytlpbpljdfflgeaa
open Fl Go.RowKit
set_option maxHeartbeats 8000000 in
theorem r8Same_any (A C : Option Addr) (n c d : Nat) (xs ys : List Nat) (w : World) (ha : Fs w w.heap.size A n xs) (hc : Fs w w.heap.size C n ys) (hn : n ≤ 1048576)
    (hs : ∀ k, k < n → ab .f32 (wd xs k) = ab .f32 (wd ys k)) :
    Calls Try.prog 20 #[.slice A n c, .slice C n d] w fun e w' => e = .returned (.bool true) ∧ w.Since w.heap.size w' := by
  have HA := Lib.hid ha
  have HC := Lib.hid hc
  have HS := Lib.hid hs
  clear ha hc hs
  go_enter Try.func20, Try.ntmps20
  go_wp2
  go_loopw [5] (fun i wr => ∃ k : Nat, k ≤ n ∧ i = .int .i64 k ∧ w.Since w.heap.size wr) (fun i _ => n - (intOf i).toNat)
  case atStart => exact ⟨0, Nat.zero_le _, rfl, World.Since.refl _ _⟩
  case round =>
    obtain ⟨k, hk, rfl, hs⟩ := hrel
    have HT := Lib.hid hs; clear hs
    by_cases hlt : k < n
    · obtain ⟨g, off, rfl, hg, hc1⟩ := HA.out.2.2 (by omega)
      obtain ⟨g', off', rfl, hg', hc2⟩ := HC.out.2.2 (by omega)
      have hcell : wr.cell? ⟨g, off + k, none⟩ = some (.float .f32 (wd xs k)) := (HT.out.cell (a := ⟨g, off + k, none⟩) hg).trans (hc1 k hlt)
      have hcell2 : wr.cell? ⟨g', off' + k, none⟩ = some (.float .f32 (wd ys k)) := (HT.out.cell (a := ⟨g', off' + k, none⟩) hg').trans (hc2 k hlt)
      have hw1 := HA.out.2.1.at_ k
      have hw2 := HC.out.2.1.at_ k
      have he : decide (bitsO (ab .f32 (wd xs k)) = bitsO (ab .f32 (wd ys k))) = true := decide_eq_true (by rw [HS.out k hlt])
      clear hc1 hc2
      go_wp2
      have HQ : Hid (∀ v : World, Calls Try.prog 22 #[.float .f32 (wd xs k), .float .f32 (wd ys k)] v fun e v' => e = .returned (.bool true) ∧ v' = v) := Lib.hid fun v => (implSame_any _ _ _ hw1 hw2).mono fun e v' ⟨h1, h2⟩ => ⟨by rw [h1, he], h2.symm⟩
      go_quiet (first | (go_at_call 22; refine Calls.quiet_of_same (HQ.out _)))
      go_wp2
      go_roundw
      case rel => exact ⟨k + 1, by omega, by go_num, since_drewN HT.out _⟩
      case measure => simp [intOf]; omega
    · go_wp2
      go_ret
      exact ⟨rfl, HT.out⟩
set_option maxHeartbeats 8000000 in
theorem b10Same_any (A C : Option Addr) (n c d : Nat) (xs ys : List Nat) (w : World) (ha : Fs w w.heap.size A n xs) (hc : Fs w w.heap.size C n ys) (hn : n ≤ 1048576)
    (hs : ∀ k, k < n → ab .f32 (wd xs k) = ab .f32 (wd ys k)) :
    Calls Try.prog 46 #[.slice A n c, .slice C n d] w fun e w' => e = .returned (.bool true) ∧ w.Since w.heap.size w' := by
  have HA := Lib.hid ha
  have HC := Lib.hid hc
  have HS := Lib.hid hs
  clear ha hc hs
  go_enter Try.func46, Try.ntmps46
  go_wp2
  go_loopw [5] (fun i wr => ∃ k : Nat, k ≤ n ∧ i = .int .i64 k ∧ w.Since w.heap.size wr) (fun i _ => n - (intOf i).toNat)
  case atStart => exact ⟨0, Nat.zero_le _, rfl, World.Since.refl _ _⟩
  case round =>
    obtain ⟨k, hk, rfl, hs⟩ := hrel
    have HT := Lib.hid hs; clear hs
    by_cases hlt : k < n
    · obtain ⟨g, off, rfl, hg, hc1⟩ := HA.out.2.2 (by omega)
      obtain ⟨g', off', rfl, hg', hc2⟩ := HC.out.2.2 (by omega)
      have hcell : wr.cell? ⟨g, off + k, none⟩ = some (.float .f32 (wd xs k)) := (HT.out.cell (a := ⟨g, off + k, none⟩) hg).trans (hc1 k hlt)
      have hcell2 : wr.cell? ⟨g', off' + k, none⟩ = some (.float .f32 (wd ys k)) := (HT.out.cell (a := ⟨g', off' + k, none⟩) hg').trans (hc2 k hlt)
      have hw1 := HA.out.2.1.at_ k
      have hw2 := HC.out.2.1.at_ k
      have he : decide (bitsO (ab .f32 (wd xs k)) = bitsO (ab .f32 (wd ys k))) = true := decide_eq_true (by rw [HS.out k hlt])
      clear hc1 hc2
      go_wp2
      have HQ : Hid (∀ v : World, Calls Try.prog 33 #[.float .f32 (wd xs k), .float .f32 (wd ys k)] v fun e v' => e = .returned (.bool true) ∧ v' = v) := Lib.hid fun v => (specSame_any _ _ _ hw1 hw2).mono fun e v' ⟨h1, h2⟩ => ⟨by rw [h1, he], h2.symm⟩
      go_quiet (first | (go_at_call 33; refine Calls.quiet_of_same (HQ.out _)))
      go_wp2
      go_roundw
      case rel => exact ⟨k + 1, by omega, by go_num, since_drewN HT.out _⟩
      case measure => simp [intOf]; omega
    · go_wp2
      go_ret
      exact ⟨rfl, HT.out⟩
namespace Fl
open Go.ChangeShapes Go.WideShapes Go.RowKit Go.WideMaps Go.WideElems
section
variable {H : Type} {enc : TypeId × Value → H} {P : Program}
theorem open_bs {W : World} {base b0 : Nat} {r : Reach} {t e : TypeId} {v : Value} {d : DataW H} {ps : List MemPlace} (ht : P.underlying t = some (.slice e)) (he : P.underlying e = some (.int .u8)) (hc : P.cellsOf e = 1)
    (hval : Value.okWide P W r b0 t v) (h : DataW.Trod enc P W base (fun _ => true) true t v d ps) :
    ∃ (A : Option Addr) (n c : Nat) (xs : List Int), v = .slice A n c ∧ Bs W W.heap.size A n xs ∧ n ≤ 9223372036854775807 := by
  obtain ⟨A, n, c, rfl⟩ := okWide_slice ht hval
  obtain ⟨fuel, hf⟩ := h
  rcases Go.Deep.open_slice ht hf with ⟨hcs, _⟩ | ⟨a, len, cap, m, k, D, Pl, hcs, _, hl, hm, hmm, _, hi⟩
  · simp only [Value.cells, Array.toList] at hcs
    injection hcs with hcs _
    injection hcs with h1 h2 h3
    subst h1; subst h2; subst h3
    exact ⟨none, 0, 0, [], rfl, ⟨rfl, (fun k => by simp [wi]), (fun h => by omega)⟩, by omega⟩
  · simp only [Value.cells, Array.toList] at hcs
    injection hcs with hcs _
    injection hcs with h1 h2 h3
    subst h1; subst h2; subst h3
    rw [if_pos rfl] at hmm
    subst hmm
    have hcell : ∀ i, i < m → ∃ b : Int, W.cell? (a.add i) = some (.int .u8 b) ∧ (Lit.int .u8 b).wf = true := by
      intro i him
      obtain ⟨cs', hcs', htr⟩ := hi i him
      rw [hc, Nat.mul_one] at hcs'
      obtain ⟨_, hlen, hat⟩ := World.cells?_some hcs'
      obtain ⟨b, hb, hw⟩ := trod_in he htr
      have h0 := hat 0 (by omega)
      rw [hb] at h0
      refine ⟨b, ?_, hw⟩
      have e : (a.add i).add 0 = a.add i := by simp [Addr.add]
      rw [e] at h0
      exact h0
    let f : Nat → Int := fun i => if h : i < m then Classical.choose (hcell i h) else 0
    have hfs : ∀ i (h : i < m), W.cell? (a.add i) = some (.int .u8 (f i)) ∧ (Lit.int .u8 (f i)).wf = true := by
      intro i h
      have := Classical.choose_spec (hcell i h)
      simp only [f, dif_pos h]
      exact this
    have hw8 : ∀ i, 0 ≤ f i ∧ f i < 256 := by
      intro i
      by_cases h : i < m
      · have h1 := (hfs i h).2
        simp only [Lit.wf, Bool.and_eq_true, decide_eq_true_eq] at h1
        have e1 : IntKind.min .u8 = 0 := by kernel_rfl
        have e2 : IntKind.max .u8 = 255 := by kernel_rfl
        rw [e1, e2] at h1
        omega
      · simp [f, h]
    refine ⟨some a, n, m, (List.range n).map f, rfl, ⟨by simp, ?_, ?_⟩, by unfold maxLen at hm; omega⟩
    · intro k
      unfold wi
      by_cases hk : k < n
      · simpa [hk] using hw8 k
      · simp [hk]
    · intro hn
      obtain ⟨g, off, spot⟩ := a
      have h0 := (hfs 0 (by omega)).1
      have hspot : spot = none := by simpa [Addr.add] using World.cell?_spot h0
      subst hspot
      refine ⟨g, off, rfl, ?_, fun k hk => ?_⟩
      · have h1 : W.cell? ⟨g, off, none⟩ = some (.int .u8 (f 0)) := by simpa [Addr.add] using h0
        rcases Nat.lt_or_ge g W.heap.size with h2 | h2
        · exact h2
        · simp [World.cell?, Array.getElem?_eq_none h2] at h1
      · have h1 := (hfs k (by omega)).1
        rw [Go.WideShapes.add_plain] at h1
        rw [h1]
        unfold wi
        simp [hk]
end
end Fl
end Go.Proofs.Ytlpbpljdfflgeaa
