/- The model's scaled and mixed samples: lists that are appended to. -/
import Derived.Test.YtmdnalkfndoicaaSg
import Derived.Test.YtmdnalkfndoicaaSc
set_option linter.unusedVariables false
set_option linter.unusedSimpArgs false
namespace Go.Proofs.Ytmdnalkfndoicaa
namespace Fl
/-- words as values -/
def fvl (xs : List Nat) : List Value := xs.map (Value.float .f32)
/-- an appended row is a slice of the call's own -/
theorem Gs.of_own {T : TypeId} {w : World} {lo n c : Nat} {A : Option Addr} {xs : List Nat} (h : w.ownsRow lo T 1 (.slice A n c) n (fvl xs)) (hs : Small xs) : Gs T w lo A n xs := by
  have hl : xs.length = n := by simpa [fvl] using h.1
  refine ⟨hl, hs, fun hn => ?_⟩
  rcases h.2 with ⟨hv, h0⟩ | ⟨g, cap, cur, hv, hg, hb, hnc, _, hsz, htk⟩
  · omega
  · injection hv with h1 _ _
    subst h1
    refine ⟨g, cur, rfl, hg, hb, fun k hk => ?_⟩
    have e1 : (cur.toList.take (n * 1))[k]? = (fvl xs)[k]? := by rw [htk]
    rw [List.getElem?_take_of_lt (by omega)] at e1
    rw [Array.getElem?_toList] at e1
    rw [e1]
    unfold fvl fv wd
    simp [hl, hk]
theorem own_drewN {T : TypeId} {w : World} {lo n s : Nat} {v : Value} {xs : List Value} (h : w.ownsRow lo T s v n xs) (k : Nat) : (w.drewN k).ownsRow lo T s v n xs := h
theorem Small.snoc {xs : List Nat} {x : Nat} (h : Small xs) (hx : x < 4294967296) : Small (xs ++ [x]) := fun y hy => by
  rcases List.mem_append.1 hy with h1 | h1
  · exact h y h1
  · rw [List.mem_singleton.1 h1]; exact hx
theorem wd_snoc {xs : List Nat} {x n : Nat} (h : xs.length = n) (j : Nat) : wd (xs ++ [x]) j = if j < n then wd xs j else if j = n then x else 0 := by
  unfold wd
  simp only [List.getD_eq_getElem?_getD]
  by_cases h1 : j < n
  · rw [if_pos h1, List.getElem?_append_left (by omega)]
  · rw [if_neg h1, List.getElem?_append_right (by omega), h]
    by_cases h2 : j = n
    · rw [if_pos h2]; simp [h2]
    · rw [if_neg h2]
      have : ([x] : List Nat)[j - n]? = none := by simp; omega
      rw [this]; rfl
theorem own_lo {T : TypeId} {w : World} {lo n s : Nat} {v : Value} {xs : List Value} (h : w.ownsRow lo T s v n xs) : ∀ b, v.ownBlock = some b → lo ≤ b := by
  intro b hb
  rcases h.2 with ⟨rfl, _⟩ | ⟨g, cap, cur, rfl, hg, _⟩
  · simp [Value.ownBlock] at hb
  · simp [Value.ownBlock] at hb; omega
theorem own_form {T : TypeId} {w : World} {lo n s : Nat} {v : Value} {xs : List Value} (h : w.ownsRow lo T s v n xs) (hn : 0 < n) : ∃ g cap, v = .slice (some ⟨g, 0, none⟩) n cap := by
  rcases h.2 with ⟨_, h0⟩ | ⟨g, cap, cur, e, _⟩
  · omega
  · exact ⟨g, cap, e⟩
theorem one_new (w : World) (v : Value) (T : TypeId) (k : Nat) : ∀ (j : Nat) (u : Value), [v][j]? = some u → ((w.drewN k).alloc (Obj.cells #[v] T)).cell? (({ block := w.heap.size, off := 0 } : Addr).add j) = some u := by
  intro j u hj
  have h0 : j = 0 := by
    rcases j with _ | j
    · rfl
    · simp at hj
  subst h0
  simp at hj
  subst hj
  have hb : ((w.drewN k).alloc (Obj.cells #[v] T)).heap[w.heap.size]? = some (.cells #[v] T (0, 0)) := Go.Deep.blk_alloc_new (w.drewN k) _
  simp only [World.cell?, Addr.add, if_true]
  rw [hb]; rfl
theorem fvl_snoc (xs : List Nat) (x : Nat) : fvl xs ++ [Value.float .f32 x] = fvl (xs ++ [x]) := by unfold fvl; simp
end Fl
open Fl Go.RowKit

theorem specScale0_any (A : Option Addr) (n c : Nat) (xs : List Nat) (by_ : Nat) (w : World) (h : Fs w w.heap.size A n xs) (hn : n ≤ 1048576) :
    Calls Try.prog 92 #[.slice A n c, .float .f32 by_] w fun e w' => ∃ A' c' ys, e = .returned (.slice A' n c') ∧ Gs 29 w' w.heap.size A' n ys ∧ (∀ k, k < n → ab .f32 (wd ys k) = opO .mul .f32 (ab .f32 (wd xs k)) (ab .f32 by_)) ∧ w.Since w.heap.size w' := by
  have H := Lib.hid h
  clear h
  obtain ⟨i0, hi, hz0, hz1, hz2⟩ := info_parts Try.infoF
  go_enter Try.func92, Try.ntmps92
  go_wp2
  go_loopw [5, 6] (fun v i wr => ∃ (k c' : Nat) (A' : Option Addr) (ys : List Nat), k ≤ n ∧ i = .int .i64 k ∧ v = .slice A' k c' ∧ wr.ownsRow w.heap.size 29 1 (.slice A' k c') k (fvl ys) ∧ Small ys ∧ (∀ j, j < k → ab .f32 (wd ys j) = opO .mul .f32 (ab .f32 (wd xs j)) (ab .f32 by_)) ∧ w.Since w.heap.size wr) (fun _ i _ => n - (intOf i).toNat)
  case atStart =>
    refine ⟨0, 0, _, [], Nat.zero_le _, rfl, rfl, ⟨rfl, .inr ⟨w.heap.size, 0, #[], rfl, Nat.le_refl _, Go.Deep.blk_alloc_new _ _, Nat.le_refl _, Nat.zero_le _, rfl, rfl⟩⟩, (fun x hx => by cases hx), (fun j hj => by omega), (World.Since.refl _ _).alloc (Nat.le_refl _) _⟩
  case round =>
    obtain ⟨k, c', A', ys, hk, rfl, rfl, hown, hsm, hv, hs⟩ := hrel
    have HO := Lib.hid hown
    have HM := Lib.hid hsm
    have HV := Lib.hid hv
    have HS := Lib.hid hs
    clear hown hsm hv hs
    by_cases hlt : k < n
    · obtain ⟨g, off, rfl, hg, hc1⟩ := H.out.2.2 (by omega)
      have hcell : wr.cell? ⟨g, off + k, none⟩ = some (.float .f32 (wd xs k)) := (HS.out.cell (a := ⟨g, off + k, none⟩) hg).trans (hc1 k hlt)
      clear hc1
      go_wp2_with (first | (with_reducible_and_instances refine wpList_fop _ rfl _ _ _ _ _ rfl _ _ _ rfl rfl rfl ?_; intro r1 n1 hr1; have HR1 := Lib.hid hr1; clear hr1) | (at_builtin; refine wpList_append_own _ rfl (.tmp 14) (.tmp 21) 35 rfl w.heap.size 29 i0 (.float .f32 0) 1 4 Try.underlying35 hi hz0 hz1 hz2 rfl (by omega) (.slice A' k c') k (fvl ys) rfl (HO.out.alloc _) ⟨wr.heap.size, 0, none⟩ 1 1 [.float .f32 r1] rfl rfl ?c1 ?c2 ?c3 ?c4 ?c5 ?_))
      case c1 => exact one_new wr _ _ n1
      case c2 => intro u hu; simp at hu; subst hu; rfl
      case c3 => unfold maxLen; omega
      case c4 => omega
      case c5 => exact Nat.le_trans HS.out.size (by simp)
      intro v' w1 hown1 hgrow1 _
      have hS1 : w.Since w.heap.size w1 := ((since_drewN HS.out n1).alloc HS.out.size _).grown hgrow1 (Nat.le_trans HS.out.size (by simp)) (own_lo HO.out)
      obtain ⟨g', cap', rfl⟩ := own_form hown1 (by omega)
      rw [fvl_snoc] at hown1
      have HO1 := Lib.hid hown1
      have HS1 := Lib.hid hS1
      clear hown1 hgrow1 hS1
      go_wp2
      go_roundw
      case rel =>
        refine ⟨k + 1, cap', _, ys ++ [r1], by omega, by go_num, rfl, HO1.out, HM.out.snoc HR1.out.1, fun j hj => ?_, HS1.out⟩
        have hyl : ys.length = k := by simpa [fvl] using HO.out.1
        rw [wd_snoc hyl]
        by_cases e : j < k
        · rw [if_pos e]; exact HV.out j e
        · obtain rfl : j = k := by omega
          rw [if_neg e, if_pos rfl]; exact HR1.out.2
      case measure => simp [intOf]; omega
    · go_wp2
      go_ret
      obtain rfl : k = n := by omega
      exact ⟨A', c', ys, rfl, Gs.of_own HO.out HM.out, HV.out, HS.out⟩
end Go.Proofs.Ytmdnalkfndoicaa
