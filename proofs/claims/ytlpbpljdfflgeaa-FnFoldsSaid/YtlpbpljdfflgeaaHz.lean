/- Joined: Ta Tb Tc Td Th Ti Tj Tg Tk Hi Hj Hu -/
import Derived.Test.YtlpbpljdfflgeaaHb
import Derived.Laws.AppendOwnNone
import Derived.Lib.AppendZeros
import Derived.Lib.AppendZerosOnto
import Derived.Test.YtlpbpljdfflgeaaJe
import Derived.RegionTactic
import Derived.Test.YtlpbpljdfflgeaaHh
import Derived.Test.YtlpbpljdfflgeaaEi
import Derived.Test.YtlpbpljdfflgeaaRz
/- Folds: rows of floats that whole lists are appended to; the model's fold. -/
set_option linter.unusedVariables false
set_option linter.unusedSimpArgs false
namespace Go.Proofs.Ytlpbpljdfflgeaa
open Fl Go.RowKit
theorem fvl_app (xs ys : List Nat) : fvl xs ++ fvl ys = fvl (xs ++ ys) := by unfold fvl; simp
theorem wd_app (xs ys : List Nat) (j : Nat) : wd (xs ++ ys) j = if j < xs.length then wd xs j else wd ys (j - xs.length) := by
  unfold wd
  split
  · next h => simp [List.getD_eq_getElem?_getD, List.getElem?_append_left h]
  · next h => simp [List.getD_eq_getElem?_getD, List.getElem?_append_right (Nat.le_of_not_lt h)]
set_option maxRecDepth 100000 in
theorem wpList_appN {ops : Array Oper} {rest : List Oper} {o : Oper} {a : Act} {Q : Exit → Act → World → Prop} {w : World} (hgd : o.guard = none) (s x : Operand)
    (ho : o.op = .call { callee := .builtin .append, args := #[s, x], argTypes := #[24, 24] }) (lo : Nat) (v : Value) (k : Nat) (F : Nat → O) (hs : a.eval s = v) (A : Option Addr) (m c : Nat) (xs : List Nat) (B : Nat)
    (hx : a.eval x = .slice A m c) (hnone : A = none → m = 0 ∧ c = 0) (hA : Hid (Fs w B A m xs)) (hF : ∀ j, j < m → F (k + j) = ab .f32 (wd xs j)) (hk : k + m ≤ 1048576) (hlo : lo ≤ w.heap.size) (hR : Rw lo w v k F)
    (h : ∀ v' w', Hid (Rw lo w' v' (k + m) F) → Hid (w.Since lo w') → wpList Try.prog ops Q rest (a.put o.dst v') w') : wpList Try.prog ops Q (o :: rest) a w := by
  obtain ⟨os, h1, h2, h3⟩ := hR
  obtain ⟨i0, hi, hz0, hz1, hz2⟩ := info_parts Try.infoF
  have HA := hA.out
  cases A with
  | none =>
    obtain ⟨rfl, rfl⟩ := hnone rfl
    exact wpList_append_own_none (P := Try.prog) hgd s x 24 ho lo 30 i0 1 Try.underlying24 hi v k (fvl os) (by rw [hs]) h1 hx (h v w (Lib.hid ⟨os, h1, h2, h3⟩) (Lib.hid (World.Since.refl _ _)))
  | some ad =>
  refine wpList_append_own (P := Try.prog) w hgd s x 24 ho lo 30 i0 (.float .f32 0) 1 4 Try.underlying24 hi hz0 hz1 hz2 rfl (by omega) v k (fvl os) hs h1 ad m c (fvl xs) hx ?_ ?_ ?_ ?_ ?_ hlo ?_
  · rw [fvl, List.length_map, HA.1, Nat.mul_one]
  · intro j u hj
    have hlt : j < m := by
      have := (List.getElem?_eq_some_iff.1 hj).1
      rw [fvl, List.length_map, HA.1] at this; exact this
    obtain ⟨g, off, e, _, hc⟩ := HA.2.2 (by omega)
    injection e with e
    subst e
    have := hc j hlt
    rw [show (Addr.mk g off none).add j = ⟨g, off + j, none⟩ by simp [Addr.add], this]
    rw [← hj]
    unfold fvl fv wd
    simp [List.getD_eq_getElem?_getD, List.getElem?_eq_getElem (show j < xs.length by rw [HA.1]; exact hlt)]
  · intro u hu
    obtain ⟨x, _, rfl⟩ := List.mem_map.1 hu
    rfl
  · unfold maxLen; omega
  · omega
  · intro v' w' hown hg _
    have hyl : os.length = k := by simpa [fvl] using h1.1
    refine h v' w' (Lib.hid ⟨os ++ xs, ?_, fun x hx => ?_, fun j hj => ?_⟩) (Lib.hid ⟨hg.os, hg.tape, hg.output, hg.size, fun i hi => ?_⟩)
    · rw [← fvl_app]; exact hown
    · rcases List.mem_append.1 hx with h4 | h4
      · exact h2 x h4
      · exact HA.2.1 x h4
    · rw [wd_app, hyl]
      by_cases e : j < k
      · rw [if_pos e]; exact h3 j e
      · rw [if_neg e, ← hF (j - k) (by omega)]; congr 1; omega
    · refine hg.block i (by omega) fun e => ?_
      have := own_lo h1 i e.symm
      omega
theorem Rw.end_ {lo : Nat} {w : World} {v : Value} {k : Nat} {F : Nat → O} (h : Rw lo w v k F) : ∃ (A : Option Addr) (c : Nat) (xs : List Nat), v = .slice A k c ∧ k ≤ c ∧ (A = none → k = 0 ∧ c = 0) ∧ (∀ a, A = some a → ∃ g, a = ⟨g, 0, none⟩ ∧ lo ≤ g) ∧ Gs 30 w lo A k xs ∧ Are ⟨A, k, xs⟩ F := by
  obtain ⟨os, h1, hs, hf⟩ := h
  rcases h1.2 with ⟨rfl, rfl⟩ | ⟨g, cap, cur, rfl, hg, _, hk, _⟩
  · exact ⟨none, 0, os, rfl, Nat.le_refl _, fun _ => ⟨rfl, rfl⟩, (fun a h => by cases h), Gs.of_own h1 hs, hf⟩
  · exact ⟨some ⟨g, 0, none⟩, cap, os, rfl, hk, (fun h => by cases h), fun a h => by cases h; exact ⟨g, rfl, hg⟩, Gs.of_own h1 hs, hf⟩
theorem Fs.nil_ {w : World} {A : Option Addr} : Fs w 0 A 0 [] := ⟨rfl, (fun x hx => by cases hx), (fun h => by omega)⟩
/-- the last ones of a list -/
theorem Fs.tail {w : World} {B n m : Nat} {g off : Nat} {xs : List Nat} (h : Fs w B (some ⟨g, off, none⟩) (n + m) xs) : Fs w B (some ⟨g, off + n, none⟩) m (xs.drop n) :=
  ⟨by rw [List.length_drop, h.1]; omega, fun x hx => h.2.1 x (List.mem_of_mem_drop hx), fun hm => by
    obtain ⟨g', off', e, hg, hc⟩ := h.2.2 (by omega)
    injection e with e
    injection e with e1 e2 _
    subst e1; subst e2
    refine ⟨g, off + n, rfl, hg, fun k hk => ?_⟩
    have := hc (n + k) (by omega)
    rw [← Nat.add_assoc] at this
    rw [this]
    unfold fv wd
    simp [List.getD_eq_getElem?_getD]⟩
theorem wd_drop (xs : List Nat) (n k : Nat) : wd (xs.drop n) k = wd xs (n + k) := by unfold wd; simp [List.getD_eq_getElem?_getD]
def apO (xs ys : List Nat) (n j : Nat) : O := if j < n then ab .f32 (wd xs j) else ab .f32 (wd ys (j - n))
def fsum (T Z : Nat → O) (p : Nat) : Nat → O
  | 0 => some 0
  | k + 1 => opO .add .f32 (fsum T Z p k) (opO .mul .f32 (T k) (Z (p - k)))
def foldF (T Z : Nat → O) (l t i : Nat) : O := fsum T Z (l + i) t
def offO (Z : Nat → O) (n j : Nat) : O := Z (n + j)
def PEE (n0 : Nat) (f0 : Nat → O) (n1 : Nat) (f1 : Nat → O) (w : World) (e : Ending) (w' : World) : Prop :=
  ∃ (p q : Ls) (c d : Nat), e = .returned (.tuple #[.slice p.A p.n c, .slice q.A q.n d]) ∧ Hid (p.n = n0) ∧ Hid (q.n = n1) ∧ Hid (Ge w.heap.size w' (fe p.A p.n p.xs)) ∧ Hid (Ge w.heap.size w' (fe q.A q.n q.xs)) ∧ Hid (Are p f0) ∧ Hid (Are q f1) ∧ Hid (De (fe p.A p.n p.xs) (fe q.A q.n q.xs)) ∧ Hid (w.Since w.heap.size w')
end Go.Proofs.Ytlpbpljdfflgeaa

/- Folds: rooms made for rows, lists joined, one sum of the program's fold. -/
set_option linter.unusedVariables false
set_option linter.unusedSimpArgs false
namespace Go.Proofs.Ytlpbpljdfflgeaa
open Fl Go.RowKit
theorem grow0_any (w : World) : Calls Try.prog 167 #[.slice none 0 0, .int .i64 0] w fun e w' => e = .returned (.slice none 0 0) ∧ w = w' := by
  go_enter Try.func167, Try.ntmps167
  go_wp2
  go_ret
  exact ⟨rfl, rfl⟩
set_option maxHeartbeats 4000000 in
set_option maxRecDepth 100000 in
theorem grow_any (n : Nat) (w : World) (F : Nat → O) (h0 : 0 < n) (hn : n ≤ 1048576) :
    Calls Try.prog 167 #[.slice none 0 0, .int .i64 n] w fun e w' => ∃ v, e = .returned v ∧ Hid (Rw w.heap.size w' v 0 F) ∧ Hid (w.Since w.heap.size w') := by
  obtain ⟨i0, hi, hz0, hz1, hz2⟩ := info_parts Try.infoF
  have hrz := fun ty => Lib.run_append_nil_zeros (P := Try.prog) w 24 3 ty 30 i0 (.float .f32 0) .i64 .i64 Try.underlying24 Try.underlying3 hi hz0 n h0 (by omega) (by omega) (by rw [hz2]; omega)
  have hG1 := grownCap_ge w n 0 30
  have hG2 := grownCap_le_maxLen w n 0 30 (by unfold maxLen; omega)
  obtain ⟨G, hG⟩ : ∃ G, G = grownCap w n 0 30 := ⟨_, rfl⟩
  rw [← hG] at hrz hG1 hG2
  obtain ⟨cs, hcs⟩ : ∃ cs, cs = Builtin.zeroCells (Value.float .f32 0).cells n ++ Builtin.zeroCells (Value.float .f32 0).cells (G - n) := ⟨_, rfl⟩
  have hsz : cs.size = G := by rw [hcs]; simp [Builtin.zeroCells, Value.cells]; omega
  rw [← hcs] at hrz
  have hG63 : G ≤ 9223372036854775807 := by unfold maxLen at hG2; omega
  have HM := Lib.hid hG2; have HSZ := Lib.hid hsz
  clear hG hcs hG2 hsz hi hz0 hz1 hz2
  go_enter Try.func167, Try.ntmps167
  go_wp2_with (at_builtin; refine Lib.wpList_append_run _ rfl _ _ _ _ rfl _ _ rfl rfl _ _ (hrz _) ?_)
  all_goals
    go_ret
    exact ⟨_, rfl, Lib.hid ⟨[], ⟨rfl, .inr ⟨w.heap.size, G, cs, rfl, Nat.le_refl _, Go.Deep.blk_alloc_new _ _, Nat.zero_le _, HM.out, by rw [HSZ.out]; omega, rfl⟩⟩, (fun x hx => by cases hx), fun j hj => by omega⟩, Lib.hid (by (repeat (first | (with_reducible refine Fl.sinDrew ?_) | (with_reducible refine World.Since.drew ?_) | (with_reducible refine Fl.sinSet ?_ ?_; rotate_left) | (with_reducible refine Fl.sinAlloc ?_ ?_; rotate_left) | with_reducible exact World.Since.refl _ _ | with_reducible assumption | (with_reducible refine Fl.sinStep (by with_reducible assumption) ?_))); all_goals (first | omega | (simp; done) | (simp; omega) | (simp [go_sem]; done) | (simp [go_sem]; omega)))⟩
set_option maxHeartbeats 8000000 in
set_option maxRecDepth 100000 in
theorem concat_any (b : Nat) (A A2 : Option Addr) (l c n c2 : Nat) (ls xs : List Nat) (w : World) (h1 : w.cell? ⟨b, 0, none⟩ = some (.slice A l c)) (h2 : w.cell? ⟨b, 1, none⟩ = some (.slice A2 n c2)) (hb : b < w.heap.size) (hA : Fs w w.heap.size A l ls) (hA2 : Fs w w.heap.size A2 n xs) (hl : l ≤ 31) (hn : n ≤ 256)
    (e1 : A = none → l = 0 ∧ c = 0) (e2 : A2 = none → n = 0 ∧ c2 = 0) :
    Calls Try.prog 90 #[.slice (some ⟨b, 0, none⟩) 2 2] w fun e w' => ∃ v, e = .returned v ∧ Hid (Rw w.heap.size w' v (l + n) (apO ls xs l)) ∧ Hid (w.Since w.heap.size w') := by
  have HA := Lib.hid hA; have HA2 := Lib.hid hA2
  clear hA hA2
  go_enter Try.func90, Try.ntmps90
  go_wp2
  go_loop [3, 11] (fun s i => ∃ k : Nat, k ≤ 2 ∧ i = .int .i64 (k : Nat) ∧ s = .int .i64 ((if k = 0 then 0 else if k = 1 then l else l + n : Nat) : Int)) (fun _ i => 2 - (intOf i).toNat)
  case atStart => exact ⟨0, by omega, rfl, rfl⟩
  case round =>
    obtain ⟨k, hk, rfl, rfl⟩ := hrel
    obtain rfl | rfl | rfl : k = 0 ∨ k = 1 ∨ k = 2 := by omega
    · simp only [if_true]
      go_wp2
      exact ⟨⟨1, by omega, rfl, rfl⟩, by simp [intOf]⟩
    · simp only [show ¬ (1 = 0) from by decide, if_true, if_false]
      go_wp2
      exact ⟨⟨2, by omega, rfl, by simp⟩, by simp [intOf]⟩
    · simp only [show ¬ (2 = 0) from by decide, show ¬ (2 = 1) from by decide, if_false]
      have hsum : (l : Int) + (n : Int) = ((l + n : Nat) : Int) := by omega
      have hfin : ∀ (v0 : Value) (w1 : World), Hid (Rw w.heap.size w1 v0 0 (apO ls xs l)) → Hid (w.Since w.heap.size w1) → True := fun _ _ _ _ => trivial
      obtain ⟨m, hm⟩ : ∃ m, m = l + n := ⟨_, rfl⟩
      rw [← hm]
      have hG : ∀ W : World, Calls Try.prog 167 #[.slice none 0 0, .int .i64 m] W fun e w' => ∃ v, e = .returned v ∧ Hid (Rw W.heap.size w' v 0 (apO ls xs l)) ∧ Hid (W.Since W.heap.size w') := fun W => by
        by_cases h0 : 0 < m
        · exact grow_any m W _ h0 (by omega)
        · obtain rfl : m = 0 := by omega
          refine (grow0_any W).mono ?_
          rintro e w' ⟨rfl, rfl⟩
          exact ⟨_, rfl, Lib.hid ⟨[], ⟨rfl, .inl ⟨rfl, rfl⟩⟩, (fun x hx => by cases hx), fun j hj => by omega⟩, Lib.hid (World.Since.refl _ _)⟩
      have HG := Lib.hid hG
      clear hG hm hfin
      go_wp2_with (go_at_call 167; refine (HG.out _).mono ?_; rintro e w1 ⟨v0, rfl, hR1, hS1⟩)
      have z1 := hS1.out.size
      go_loopw [6, 27] (fun v i wr => ∃ k : Nat, k ≤ 2 ∧ i = .int .i64 (k : Nat) ∧ Rw w.heap.size wr v (if k = 0 then 0 else if k = 1 then l else l + n) (apO ls xs l) ∧ w.Since w.heap.size wr) (fun _ i _ => 2 - (intOf i).toNat)
      case atStart => exact ⟨0, by omega, rfl, hR1.out, hS1.out⟩
      case round =>
        obtain ⟨k, hk, rfl, hr, hs⟩ := hrel
        have HR := Lib.hid hr; have HS := Lib.hid hs
        have hsz := hs.size
        have c1 := (HS.out.cell (a := ⟨b, 0, none⟩) hb).trans h1
        have c2' := (HS.out.cell (a := ⟨b, 1, none⟩) hb).trans h2
        clear hr hs
        obtain rfl | rfl | rfl : k = 0 ∨ k = 1 ∨ k = 2 := by omega
        · simp only [if_true] at HR
          go_wp2_with (first | (at_builtin; go_loud (refine wpList_appN rfl (.tmp 31) (.tmp 32) rfl w.heap.size _ 0 (apO ls xs l) rfl A l c ls w.heap.size rfl e1 (Lib.hid (HA.out.since HS.out)) (fun j hj => by unfold apO; rw [if_pos (by omega)]; congr 2; omega) (by omega) hsz HR.out ?_); intro v4 w4 hR4 hS4))
          go_roundw
          case rel => exact ⟨1, by omega, rfl, by simpa using hR4.out, HS.out.trans hS4.out⟩
          case measure => simp [intOf]
        · simp only [show ¬ (1 = 0) from by decide, if_true, if_false] at HR
          go_wp2_with (first | (at_builtin; go_loud (refine wpList_appN rfl (.tmp 31) (.tmp 32) rfl w.heap.size _ l (apO ls xs l) rfl A2 n c2 xs w.heap.size rfl e2 (Lib.hid (HA2.out.since HS.out)) (fun j hj => by unfold apO; rw [if_neg (by omega)]; congr 2; omega) (by omega) hsz HR.out ?_); intro v4 w4 hR4 hS4))
          go_roundw
          case rel => exact ⟨2, by omega, rfl, by simpa using hR4.out, HS.out.trans hS4.out⟩
          case measure => simp [intOf]
        · simp only [show ¬ (2 = 0) from by decide, show ¬ (2 = 1) from by decide, if_false] at HR
          go_wp2
          go_ret
          exact ⟨_, rfl, HR, HS⟩
/-- a made row of n floats, of which the first k stand for F -/
def Mr (w : World) (g n k : Nat) (F : Nat → O) : Prop := ∃ xs : List Nat, xs.length = n ∧ Small xs ∧ GCells w g n (fv xs) ∧ ∀ j, j < k → ab .f32 (wd xs j) = F j
theorem Mr.made (w : World) (n : Nat) (F : Nat → O) : Mr (w.alloc (.cells (madeCells #[.float .f32 0] n) 30)) w.heap.size n 0 F := by
  obtain ⟨cs, hb, _, hc⟩ := World.rowIs_made w (.float .f32 0) n 30
  refine ⟨List.replicate n 0, by simp, fun x hx => ?_, ⟨cs, hb, fun j hj => ?_⟩, fun j hj => by omega⟩
  · rw [(List.mem_replicate.1 hx).2]; decide
  · rw [hc j hj]; unfold fv wd; simp [List.getD_eq_getElem?_getD, hj]
theorem Mr.put {w : World} {g n k : Nat} {F : Nat → O} (h : Mr w g n k F) (hk : k < n) {r : Nat} (hr : Hid (Fv .f32 r (F k))) : Mr (w.setCell ⟨g, k, none⟩ (.float .f32 r)) g n (k + 1) F := by
  obtain ⟨xs, h1, h2, h3, h4⟩ := h
  refine ⟨xs.set k r, by rw [List.length_set, h1], fun x hx => ?_, (h3.set k _).congr (fun j hj => ?_), fun j hj => ?_⟩
  · rcases List.mem_or_eq_of_mem_set hx with h | rfl
    · exact h2 x h
    · exact hr.out.1
  · unfold fv wd
    by_cases e : j = k
    · subst e; rw [if_pos rfl]; simp [List.getD_eq_getElem?_getD, List.getElem?_set, h1, hj]
    · rw [if_neg e]; simp [List.getD_eq_getElem?_getD, List.getElem?_set, show ¬ (k = j) from fun h => e h.symm]
  · unfold wd
    by_cases e : j = k
    · subst e
      simp [List.getD_eq_getElem?_getD, List.getElem?_set, h1, hk]
      exact hr.out.2
    · have := h4 j (by omega)
      unfold wd at this
      simpa [List.getD_eq_getElem?_getD, List.getElem?_set, show ¬ (k = j) from fun h => e h.symm] using this
theorem Mr.keep {w w' : World} {g n k : Nat} {F : Nat → O} (h : Mr w g n k F) (e : w'.heap[g]? = w.heap[g]?) : Mr w' g n k F := by
  obtain ⟨xs, h1, h2, ⟨cs, hb, hc⟩, h4⟩ := h
  exact ⟨xs, h1, h2, ⟨cs, e.trans hb, hc⟩, h4⟩
theorem Mr.drewN {w : World} {g n k : Nat} {F : Nat → O} (h : Mr w g n k F) (m : Nat) : Mr (w.drewN m) g n k F := h
theorem Mr.lt {w : World} {g n k : Nat} {F : Nat → O} (h : Mr w g n k F) : g < w.heap.size := by
  obtain ⟨xs, h1, h2, h3, h4⟩ := h
  exact h3.lt
theorem Mr.cell {w : World} {g n k : Nat} {F : Nat → O} (h : Mr w g n k F) {j : Nat} (hj : j < n) : ∃ x, w.cell? ⟨g, j, none⟩ = some (.float .f32 x) := by
  obtain ⟨xs, h1, h2, h3, h4⟩ := h
  exact ⟨_, h3.cell hj⟩
theorem Mr.free {w : World} {g n k : Nat} {F : Nat → O} (h : Mr w g n k F) (j : Nat) : w.frozen? ⟨g, j, none⟩ = false := by
  obtain ⟨xs, h1, h2, h3, h4⟩ := h
  exact h3.free j
theorem Mr.done {w : World} {g n lo : Nat} {F : Nat → O} (h : Mr w g n n F) (hl : lo ≤ g) : ∃ xs, Gs 30 w lo (some ⟨g, 0, none⟩) n xs ∧ Are ⟨some ⟨g, 0, none⟩, n, xs⟩ F := by
  obtain ⟨xs, h1, h2, ⟨cs, hb, hc⟩, h4⟩ := h
  exact ⟨xs, ⟨h1, h2, fun _ => ⟨g, cs, rfl, hl, hb, hc⟩⟩, h4⟩
set_option maxHeartbeats 4000000 in
set_option maxRecDepth 100000 in
theorem sumOfFold_any (A A2 : Option Addr) (t c c2 : Nat) (ts zs : List Nat) (T Z : Nat → O) (p : Nat) (w : World) (B : Nat) (hA : Fs w B A t ts) (hA2 : Fs w B A2 t zs) (ht : t ≤ 32) (hT : ∀ k, k < t → ab .f32 (wd ts k) = T k) (hZ : ∀ k, k < t → ab .f32 (wd zs (t - 1 - k)) = Z (p - k)) :
    Calls Try.prog 91 #[.slice A t c, .slice A2 t c2] w fun e w' => ∃ r m, e = .returned (.float .f32 r) ∧ Hid (Fv .f32 r (fsum T Z p t)) ∧ w.drewN m = w' := by
  have HA := Lib.hid hA; have HA2 := Lib.hid hA2; have HT := Lib.hid hT; have HZ := Lib.hid hZ
  clear hA hA2 hT hZ
  go_enter Try.func91, Try.ntmps91
  go_wp2
  go_loopw [5, 10] (fun s i wr => ∃ j q m : Nat, j ≤ t ∧ i = .int .i64 (j : Nat) ∧ s = .float .f32 q ∧ Hid (Fv .f32 q (fsum T Z p j)) ∧ wr = w.drewN m) (fun _ i _ => t - (intOf i).toNat)
  case atStart => exact ⟨0, 0, 0, Nat.zero_le _, rfl, rfl, fv0, rfl⟩
  case round =>
    obtain ⟨j, q, m, hj, rfl, rfl, hq, rfl⟩ := hrel
    by_cases hl2 : j < t
    · obtain ⟨g, off, rfl, hg, hc⟩ := HA.out.2.2 (by omega)
      have hcell : w.cell? ⟨g, off + j, none⟩ = some (.float .f32 (wd ts j)) := hc j hl2
      have hx : Hid (Fv .f32 (wd ts j) (T j)) := Lib.hid ⟨HA.out.2.1.at_ _, HT.out j hl2⟩
      obtain ⟨g2, off2, rfl, hg2, hc2⟩ := HA2.out.2.2 (by omega)
      obtain ⟨i, hi⟩ : ∃ i, i = t - 1 - j := ⟨_, rfl⟩
      have hcell2 : w.cell? ⟨g2, off2 + i, none⟩ = some (.float .f32 (wd zs i)) := hc2 i (by omega)
      have hz : Hid (Fv .f32 (wd zs i) (Z (p - j))) := Lib.hid ⟨HA2.out.2.1.at_ _, by rw [hi]; exact HZ.out j hl2⟩
      have ep : ((t : Int) - 1) - (j : Int) = (i : Nat) := by omega
      have hpl : i < t := by omega
      have eF : Hid (fsum T Z p (j + 1) = opO .add .f32 (fsum T Z p j) (opO .mul .f32 (T j) (Z (p - j)))) := Lib.hid rfl
      clear hc hc2 hi
      go_wp2_with (first | (with_reducible_and_instances refine Lo.wpList_fo _ rfl _ _ _ _ _ rfl _ _ _ _ _ rfl rfl rfl (by assumption) (by assumption) ?_; intro rr nn hrr))
      rw [← eF.out] at hrr
      go_roundw
      case rel => exact ⟨j + 1, _, _, by omega, by go_num, rfl, hrr, rfl⟩
      case measure => simp [intOf]; omega
    · obtain rfl : j = t := by omega
      go_wp2
      go_ret
      exact ⟨q, m, rfl, hq, rfl⟩
end Go.Proofs.Ytlpbpljdfflgeaa

/- Folds: the program's. -/
set_option linter.unusedVariables false
set_option linter.unusedSimpArgs false
namespace Go.Proofs.Ytlpbpljdfflgeaa
open Fl Go.RowKit
theorem Fs.sub {w : World} {B N k t : Nat} {g off : Nat} {xs : List Nat} (h : Fs w B (some ⟨g, off, none⟩) N xs) (hk : k + t ≤ N) : Fs w B (some ⟨g, off + k, none⟩) t ((xs.drop k).take t) :=
  ⟨by rw [List.length_take, List.length_drop, h.1]; omega, fun x hx => h.2.1 x (List.mem_of_mem_drop (List.mem_of_mem_take hx)), fun hm => by
    obtain ⟨g', off', e, hg, hc⟩ := h.2.2 (by omega)
    injection e with e
    injection e with e1 e2 _
    subst e1; subst e2
    refine ⟨g, off + k, rfl, hg, fun j hj => ?_⟩
    have := hc (k + j) (by omega)
    rw [← Nat.add_assoc] at this
    rw [this]
    unfold fv wd
    simp [List.getD_eq_getElem?_getD, List.getElem?_take, hj]⟩
theorem wd_sub (xs : List Nat) (k t j : Nat) (hj : j < t) : wd ((xs.drop k).take t) j = wd xs (k + j) := by unfold wd; simp [List.getD_eq_getElem?_getD, List.getElem?_take, hj]
theorem Ge.nil_ {w : World} {lo : Nat} {A : Option Addr} : Ge lo w (fe A 0 []) := ce_ge ⟨rfl, (fun x hx => by cases hx)⟩ (fun h => by omega)
theorem Gs.tailE {w : World} {lo n m g : Nat} {xs : List Nat} (h : Gs 30 w lo (some ⟨g, 0, none⟩) (n + m) xs) : Ge lo w (fe (some ⟨g, n, none⟩) m (xs.drop n)) :=
  ce_ge ⟨by rw [List.length_drop, h.1]; omega, fun x hx => h.2.1 x (List.mem_of_mem_drop hx)⟩ fun hm => by
    obtain ⟨g', cs, e, hg, hb, hc⟩ := h.2.2 (by omega)
    injection e with e
    injection e with e1 _ _
    subst e1
    refine ⟨g, n, cs, rfl, hg, hb, fun j hj => ?_⟩
    rw [hc (n + j) (by omega)]
    unfold fv
    rw [wd_drop]
theorem implTaps_b (A : Option Addr) (n c : Nat) (b : Bool) (w : World) (h : inB (n : Int) 1 32 = b) : Calls Try.prog 88 #[.slice A n c] w fun e w' => e = .returned (.bool b) ∧ w = w' := by
  subst h
  by_cases h1 : 1 ≤ n
  all_goals
    go_enter Try.func88, Try.ntmps88
    go_wp2
    go_ret
    exact ⟨ret_bool (by simp [inB]; omega), rfl⟩
/-- two lists and a yes or no: the first one lies in a block of its own, the second one has no places where it is nil -/
def PEEBo (n0 : Nat) (f0 : Nat → O) (n1 : Nat) (f1 : Nat → O) (b : Bool) (w : World) (e : Ending) (w' : World) : Prop :=
  ∃ (p q : Ls) (c d : Nat), e = .returned (.tuple #[.slice p.A p.n c, .slice q.A q.n d, .bool b]) ∧ p.n = n0 ∧ q.n = n1 ∧ Ge w.heap.size w' (fe p.A p.n p.xs) ∧ Ge w.heap.size w' (fe q.A q.n q.xs) ∧ Are p f0 ∧ Are q f1 ∧ De (fe p.A p.n p.xs) (fe q.A q.n q.xs) ∧ w.Since w.heap.size w' ∧ (∃ g, p.A = some ⟨g, 0, none⟩) ∧ (q.A = none → q.n = 0 ∧ d = 0)
set_option maxHeartbeats 8000000 in
set_option maxRecDepth 100000 in
theorem implFold_own (A : Option Addr) (t c l n c1 c2 : Nat) (A1 A2 : Option Addr) (o1 : A1 = none → l = 0 ∧ c1 = 0) (o2 : A2 = none → n = 0 ∧ c2 = 0) (ts ls xs : List Nat) (w : World) (hA : Fs w w.heap.size A t ts) (hA1 : Fs w w.heap.size A1 l ls) (hA2 : Fs w w.heap.size A2 n xs) (ht : t = l + 1) (ht2 : t ≤ 32) (hn : n ≤ 256) :
    Calls Try.prog 19 #[.slice A t c, .slice A1 l c1, .slice A2 n c2] w (PEEBo n (foldF (fun k => ab .f32 (wd ts k)) (apO ls xs l) l t) l (offO (apO ls xs l) n) true w) := by
  subst ht
  have hl : l ≤ 31 := by omega
  have HA := Lib.hid hA; have HA1 := Lib.hid hA1; have HA2 := Lib.hid hA2; have O1 := Lib.hid o1; have O2 := Lib.hid o2
  have htb : inB ((l : Int) + 1) 1 32 = true := by simp [inB]; omega
  have hfew : decide ((n : Int) ≤ 256) = true := decide_eq_true (by omega)
  have hmk := fun W => run_make_row' (P := Try.prog) 24 30 (.float .f32 0) 4 Try.underlying24 Try.infoF rfl .i64 .i64 n (by omega) (by omega) W
  clear hA hA1 hA2 o1 o2
  go_enter Try.func19, Try.ntmps19
  go_wp2_with (first | (go_at_call 88; refine (implTaps_b _ _ _ _ _ htb).mono ?_; rintro e w' ⟨rfl, rfl⟩) | (go_at_call 89; refine (implSamples_b _ _ _ _ _ hfew).mono ?_; rintro e w' ⟨rfl, rfl⟩) | fail)
  obtain ⟨W0, hW0⟩ : ∃ W, W = w.alloc (.cells #[.slice A1 l c1, .slice A2 n c2] 24) := ⟨_, rfl⟩
  have S0 : Hid (w.Since w.heap.size W0) := Lib.hid (by rw [hW0]; exact (World.Since.refl _ _).alloc (Nat.le_refl _) _)
  have k1 : W0.cell? ⟨w.heap.size, 0, none⟩ = some (.slice A1 l c1) := by rw [hW0]; simp [go_sem]
  have k2 : W0.cell? ⟨w.heap.size, 1, none⟩ = some (.slice A2 n c2) := by rw [hW0]; simp [go_sem]
  have z0 : W0.heap.size = w.heap.size + 1 := by rw [hW0]; simp
  rw [← hW0]
  clear hW0
  refine (concat_any w.heap.size A1 A2 l c1 n c2 ls xs W0 k1 k2 (by omega) (HA1.out.now S0.out) (HA2.out.now S0.out) hl hn O1.out O2.out).mono ?_
  rintro e w1 ⟨v1, rfl, hR1, hS1⟩
  obtain ⟨Ap, cp, ps, rfl, hcp, hnone, hsome, hg, ha⟩ := hR1.out.end_
  have HNO := Lib.hid hnone; have HSO := Lib.hid hsome
  have S1 : Hid (w.Since w.heap.size w1) := Lib.hid (S0.out.trans (since_mono hS1.out (by omega)))
  have HG := Lib.hid (hg.less (show w.heap.size ≤ W0.heap.size by omega)); have HP := Lib.hid ha
  have HR := Lib.hid hg.read
  have z1 := S1.out.size
  clear hg ha hR1 hS1 hnone hsome S0 k1 k2 z0
  go_wp2_with fail
  go_loopw [37] (fun i wr => ∃ k : Nat, k ≤ n ∧ i = .int .i64 (k : Nat) ∧ Mr wr w1.heap.size n k (foldF (fun k => ab .f32 (wd ts k)) (apO ls xs l) l (l + 1)) ∧ w1.Since w1.heap.size wr) (fun i _ => n - (intOf i).toNat)
  case atStart => exact ⟨0, Nat.zero_le _, rfl, Mr.made w1 n _, (World.Since.refl _ _).alloc (Nat.le_refl _) _⟩
  case round =>
    obtain ⟨k, hk, rfl, hr, hs⟩ := hrel
    have HM := Lib.hid hr; have HS := Lib.hid hs
    have hsz := hr.lt
    clear hr hs
    by_cases hlt : k < n
    · cases Ap with
      | none => exact absurd (HNO.out rfl).1 (by omega)
      | some ap =>
        obtain ⟨gp, rfl, hgp⟩ := HSO.out ap rfl
        have hck : ¬ cp = k := by omega
        obtain ⟨hi, hhi⟩ : ∃ hi, hi = k + (l + 1) := ⟨_, rfl⟩
        have ehi : (k : Int) + ((l : Int) + 1) = (hi : Nat) := by omega
        have hh1 : hi ≤ cp := by omega
        have hh2 : k ≤ hi := by omega
        have hh3 : hi - k = l + 1 := by omega
        have hh4 : hi ≤ 400 := by omega
        clear hhi
        have HSUB := Lib.hid ((Fs.sub (k := k) (t := l + 1) HR.out (by omega)).since HS.out)
        rw [Nat.zero_add] at HSUB
        have HA' : Hid (Fs wr w1.heap.size A (l + 1) ts) := Lib.hid (((HA.out.since S1.out).since (since_mono HS.out z1)).more z1)
        obtain ⟨xo, hxo⟩ := HM.out.cell hlt
        have hfr := HM.out.free k
        have hZ : ∀ j, j < l + 1 → ab .f32 (wd ((ps.drop k).take (l + 1)) (l + 1 - 1 - j)) = apO ls xs l ((l + k) - j) := fun j hj => by
          rw [wd_sub _ _ _ _ (by omega)]
          rw [HP.out (k + (l + 1 - 1 - j)) (by show k + (l + 1 - 1 - j) < l + n; omega)]
          congr 1
          omega
        have HZ := Lib.hid hZ
        clear hZ
        go_wp2_with (go_at_call 91; go_loud (refine (sumOfFold_any A _ (l + 1) c _ ts _ (fun k => ab .f32 (wd ts k)) (apO ls xs l) (l + k) wr w1.heap.size HA'.out HSUB.out (by omega) (fun _ _ => rfl) HZ.out).mono ?_); rintro e w4 ⟨r, m, rfl, hr, rfl⟩)
        go_roundw
        case rel => exact ⟨k + 1, by omega, by go_num, (HM.out.drewN m).put hlt hr, (since_drewN HS.out m).setCell (Nat.le_refl _) _⟩
        case measure => simp [intOf]; omega
    · obtain rfl : k = n := by omega
      obtain ⟨zs, hgz, haz⟩ := HM.out.done (lo := w.heap.size) z1
      have S3 := Lib.hid (S1.out.trans (since_mono HS.out z1))
      have HZ1 := Lib.hid hgz; have HZ2 := Lib.hid haz
      clear hgz haz
      have hoff : ∀ j, j < l → ab .f32 (wd (ps.drop k) j) = offO (apO ls xs l) k j := fun j hj => by
        rw [wd_drop]
        exact HP.out (k + j) (by show k + j < l + k; omega)
      have HOF := Lib.hid hoff
      have hfin : ∀ (A5 : Option Addr) (c5 m : Nat) (qs : List Nat), Ge w.heap.size wr (fe A5 l qs) → (∀ j, j < l → ab .f32 (wd qs j) = offO (apO ls xs l) k j) → (∀ g o, 0 < l → A5 = some ⟨g, o, none⟩ → g ≠ w1.heap.size) → (A5 = none → l = 0 ∧ c5 = 0) → PEEBo k (foldF (fun k => ab .f32 (wd ts k)) (apO ls xs l) l (l + 1)) l (offO (apO ls xs l) k) true w (.returned (.tuple #[.slice (some ⟨w1.heap.size, 0, none⟩) k k, .slice A5 l c5, .bool true])) (wr.drewN m) := fun A5 c5 m qs h1 h2 h3 h4 =>
        ⟨⟨some ⟨w1.heap.size, 0, none⟩, k, zs⟩, ⟨A5, l, qs⟩, k, c5, rfl, rfl, rfl, (HZ1.out.drewN m).toE, h1.since (since_drewN (World.Since.refl _ _) m), HZ2.out, h2, fun g q1 q2 => by
          obtain ⟨hp1, o1, e1⟩ := q1
          obtain ⟨hp2, o2, e2⟩ := q2
          injection e1 with e1
          injection e1 with e1 _ _
          exact h3 g o2 hp2 e2 e1.symm, since_drewN S3.out m, ⟨_, rfl⟩, h4⟩
      have HFIN := Lib.hid hfin
      clear hoff hfin
      cases Ap with
      | none =>
        obtain ⟨h0, rfl⟩ := HNO.out rfl
        obtain ⟨rfl, rfl⟩ : l = 0 ∧ k = 0 := by omega
        go_wp2_with fail
        refine Lo.wp_loose_all [] (by kernel_rfl) (by kernel_rfl) ?_
        repeat (first
          | (refine Lo.wpL_move rfl _ (.inl rfl) (by decide) ?_; simp only [Act.put, List.setIfInBounds_toArray, List.set_cons_succ, List.set_cons_zero])
          | (refine Lo.wpL_move rfl _ (.inr rfl) (by decide) ?_; simp only [Act.put, List.setIfInBounds_toArray, List.set_cons_succ, List.set_cons_zero])
          | (refine Lo.wpL_fop rfl _ _ _ _ rfl rfl (by decide) _ _ _ _ _ rfl rfl (by assumption) (by assumption) ?_; intro rr hrr; simp only [Act.put, List.setIfInBounds_toArray, List.set_cons_succ, List.set_cons_zero])
          | (refine Lo.wpL_wide rfl _ _ _ rfl (by decide) _ _ rfl (by kernel_rfl) (by kernel_rfl) (by assumption) ?_; intro rr hrr; simp only [Act.put, List.setIfInBounds_toArray, List.set_cons_succ, List.set_cons_zero])
          | (refine Lo.wpL_quiet rfl (by decide) (fun K hK => ?_); go_big_quiet_op; (refine hK _ ?_; clear hK K)))
        refine Lo.wpL_nil ?_
        refine Lo.after_nil ?_; intro nq
        go_wp2
        go_ret3
        exact HFIN.out none 0 _ [] Ge.nil_ (fun j hj => by omega) (fun g o h => by omega) (fun _ => by simp)
      | some ap =>
        obtain ⟨gp, rfl, hgp⟩ := HSO.out ap rfl
        have hgp2 : ∀ g o, 0 < l → (some (⟨gp, o, none⟩ : Addr)) = some ⟨g, o, none⟩ → g ≠ w1.heap.size := fun g o hl0 e => by
          injection e with e
          injection e with e _ _
          subst e
          obtain ⟨g', cs, e', _, hb, _⟩ := HG.out.2.2 (by omega)
          injection e' with e'
          injection e' with e' _ _
          subst e'
          have := (Array.getElem?_eq_some_iff.1 hb).1
          omega
        have HGP := Lib.hid hgp2
        have HTE := Lib.hid ((Gs.tailE (n := k) (m := l) (by rw [Nat.add_comm k l]; exact HG.out)).since HS.out)
        clear hgp2
        by_cases hck : cp = k
        · obtain rfl : l = 0 := by omega
          subst hck
          go_wp2_with fail
          refine Lo.wp_loose_all [] (by kernel_rfl) (by kernel_rfl) ?_
          repeat (first
            | (refine Lo.wpL_move rfl _ (.inl rfl) (by decide) ?_; simp only [Act.put, List.setIfInBounds_toArray, List.set_cons_succ, List.set_cons_zero])
            | (refine Lo.wpL_move rfl _ (.inr rfl) (by decide) ?_; simp only [Act.put, List.setIfInBounds_toArray, List.set_cons_succ, List.set_cons_zero])
            | (refine Lo.wpL_fop rfl _ _ _ _ rfl rfl (by decide) _ _ _ _ _ rfl rfl (by assumption) (by assumption) ?_; intro rr hrr; simp only [Act.put, List.setIfInBounds_toArray, List.set_cons_succ, List.set_cons_zero])
            | (refine Lo.wpL_wide rfl _ _ _ rfl (by decide) _ _ rfl (by kernel_rfl) (by kernel_rfl) (by assumption) ?_; intro rr hrr; simp only [Act.put, List.setIfInBounds_toArray, List.set_cons_succ, List.set_cons_zero])
            | (refine Lo.wpL_quiet rfl (by decide) (fun K hK => ?_); go_big_quiet_op; (refine hK _ ?_; clear hK K)))
          refine Lo.wpL_nil ?_
          refine Lo.after_nil ?_; intro nq
          go_wp2
          go_ret3
          exact HFIN.out (some ⟨gp, 0, none⟩) 0 _ [] Ge.nil_ (fun j hj => by omega) (fun g o h => by omega) (fun h => by cases h)
        · go_wp2_with fail
          refine Lo.wp_loose_all [] (by kernel_rfl) (by kernel_rfl) ?_
          repeat (first
            | (refine Lo.wpL_move rfl _ (.inl rfl) (by decide) ?_; simp only [Act.put, List.setIfInBounds_toArray, List.set_cons_succ, List.set_cons_zero])
            | (refine Lo.wpL_move rfl _ (.inr rfl) (by decide) ?_; simp only [Act.put, List.setIfInBounds_toArray, List.set_cons_succ, List.set_cons_zero])
            | (refine Lo.wpL_fop rfl _ _ _ _ rfl rfl (by decide) _ _ _ _ _ rfl rfl (by assumption) (by assumption) ?_; intro rr hrr; simp only [Act.put, List.setIfInBounds_toArray, List.set_cons_succ, List.set_cons_zero])
            | (refine Lo.wpL_wide rfl _ _ _ rfl (by decide) _ _ rfl (by kernel_rfl) (by kernel_rfl) (by assumption) ?_; intro rr hrr; simp only [Act.put, List.setIfInBounds_toArray, List.set_cons_succ, List.set_cons_zero])
            | (refine Lo.wpL_quiet rfl (by decide) (fun K hK => ?_); go_big_quiet_op; (refine hK _ ?_; clear hK K)))
          refine Lo.wpL_nil ?_
          refine Lo.after_nil ?_; intro nq
          go_wp2
          go_ret3
          exact HFIN.out (some ⟨gp, k, none⟩) (cp - k) _ _ HTE.out HOF.out (fun g o h e => HGP.out g o h (by injection e with e; injection e with e _ _; rw [e])) (fun h => by cases h)
theorem implFold_ok (A : Option Addr) (t c l n c1 c2 : Nat) (a1 a2 : Addr) (ts ls xs : List Nat) (w : World) (hA : Fs w w.heap.size A t ts) (hA1 : Fs w w.heap.size (some a1) l ls) (hA2 : Fs w w.heap.size (some a2) n xs) (ht : t = l + 1) (ht2 : t ≤ 32) (hn : n ≤ 256) :
    Calls Try.prog 19 #[.slice A t c, .slice (some a1) l c1, .slice (some a2) n c2] w (PEEB n (foldF (fun k => ab .f32 (wd ts k)) (apO ls xs l) l t) l (offO (apO ls xs l) n) true w) :=
  (implFold_own A t c l n c1 c2 (some a1) (some a2) (fun h => by cases h) (fun h => by cases h) ts ls xs w hA hA1 hA2 ht ht2 hn).mono fun e w' ⟨p, q, c, d, h1, h2, h3, h4, h5, h6, h7, h8, h9, _⟩ => ⟨p, q, c, d, h1, h2, h3, h4, h5, h6, h7, h8, h9⟩
end Go.Proofs.Ytlpbpljdfflgeaa

/- Folds: the model's with its tests, and what is no fold. -/
set_option linter.unusedVariables false
set_option linter.unusedSimpArgs false
namespace Go.Proofs.Ytlpbpljdfflgeaa
open Fl Go.RowKit
theorem PEE.toB {n0 n1 : Nat} {f0 f1 : Nat → O} {w w' : World} {e : Ending} (h : PEE n0 f0 n1 f1 w e w') : ∃ (p q : Ls) (c d : Nat), e = .returned (.tuple #[.slice p.A p.n c, .slice q.A q.n d]) ∧ Hid (PEEB n0 f0 n1 f1 true w (.returned (.tuple #[.slice p.A p.n c, .slice q.A q.n d, .bool true])) w') := by
  obtain ⟨p, q, c, d, h1, h2, h3, h4, h5, h6, h7, h8, h9⟩ := h
  exact ⟨p, q, c, d, h1, Lib.hid ⟨p, q, c, d, rfl, h2.out, h3.out, h4.out, h5.out, h6.out, h7.out, h8.out, h9.out⟩⟩
def okFold (t l n : Nat) : Bool := inB (t : Int) 1 32 && (!((l : Int) != (t : Int) - 1)) && decide ((n : Int) ≤ 256)
set_option maxHeartbeats 4000000 in
theorem implFoldT_no (A A1 A2 : Option Addr) (t c l n c1 c2 : Nat) (f0 f1 : Nat → O) (w : World) (ht : t ≤ 1048576) (hl : l ≤ 1048576) (h : okFold t l n = false) :
    Calls Try.prog 19 #[.slice A t c, .slice A1 l c1, .slice A2 n c2] w (PEEB 0 f0 0 f1 false w) := by
  unfold okFold at h
  cases h1 : inB (t : Int) 1 32 <;> cases h2 : ((l : Int) != (t : Int) - 1) <;> cases h3 : decide ((n : Int) ≤ 256)
  all_goals try (rw [h1, h2, h3] at h; cases h; done)
  all_goals
    clear h
    go_enter Try.func19, Try.ntmps19
    go_wp2_with (first | (go_at_call 88; refine (implTaps_b _ _ _ _ _ h1).mono ?_; rintro e w' ⟨rfl, rfl⟩) | (go_at_call 89; refine (implSamples_b _ _ _ _ _ h3).mono ?_; rintro e w' ⟨rfl, rfl⟩))
    go_ret3
    exact PEEB.none_ (by (repeat (first | (with_reducible refine Fl.sinDrew ?_) | (with_reducible refine World.Since.drew ?_) | (with_reducible refine Fl.sinSet ?_ ?_; rotate_left) | (with_reducible refine Fl.sinAlloc ?_ ?_; rotate_left) | with_reducible exact World.Since.refl _ _ | with_reducible assumption | (with_reducible refine Fl.sinStep (by with_reducible assumption) ?_))); all_goals (first | omega | (simp; done) | (simp; omega) | (simp [go_sem]; done) | (simp [go_sem]; omega))) _ _
end Go.Proofs.Ytlpbpljdfflgeaa

/- Folds behind zeros, of both. -/
set_option linter.unusedVariables false
set_option linter.unusedSimpArgs false
namespace Go.Proofs.Ytlpbpljdfflgeaa
open Fl Go.RowKit
theorem fsum_congr {T Z Y : Nat → O} {p N : Nat} (hp : p < N) (h : ∀ j, j < N → Z j = Y j) : ∀ k, fsum T Z p k = fsum T Y p k
  | 0 => rfl
  | k + 1 => by
    show opO _ _ _ _ = opO _ _ _ _
    rw [fsum_congr hp h k, h (p - k) (by omega)]
theorem foldF_congr {T Z Y : Nat → O} {l t n : Nat} (h : ∀ j, j < l + n → Z j = Y j) {i : Nat} (hi : i < n) : foldF T Z l t i = foldF T Y l t i := fsum_congr (N := l + n) (by omega) h t
/-- zeros, and then these -/
def zth (F : Nat → O) (l j : Nat) : O := if j < l then some 0 else F (j - l)
theorem apO_zeros {xs : List Nat} {F : Nat → O} {l n : Nat} (h : ∀ j, j < n → ab .f32 (wd xs j) = F j) : ∀ j, j < l + n → apO (List.replicate l 0) xs l j = zth F l j := fun j hj => by
  unfold apO zth
  by_cases e : j < l
  · rw [if_pos e, if_pos e]
    unfold wd
    simp only [List.getD_eq_getElem?_getD, List.getElem?_replicate, e, if_true, Option.getD_some]
    exact ab0
  · rw [if_neg e, if_neg e]; exact h _ (by omega)
theorem zeros_fs (w : World) (l : Nat) : Fs (w.alloc (.cells (madeCells #[.float .f32 0] l) 30)) (w.heap.size + 1) (some ⟨w.heap.size, 0, none⟩) l (List.replicate l 0) :=
  ⟨by simp, fun x hx => by rw [(List.mem_replicate.1 hx).2]; decide, fun hl => ⟨w.heap.size, 0, rfl, by omega, fun k hk => by
    obtain ⟨cs, hb, _, hc⟩ := World.rowIs_made w (.float .f32 0) l 30
    have := hc k hk
    simp only [World.cell?, hb, Nat.zero_add]
    rw [show cs[k]? = some (.float .f32 0) from this]
    unfold fv wd
    simp [List.getD_eq_getElem?_getD, hk]⟩⟩
set_option maxHeartbeats 4000000 in
set_option maxRecDepth 100000 in
theorem implZeros_ok (A : Option Addr) (t c n c2 : Nat) (a2 : Addr) (ts xs : List Nat) (F : Nat → O) (w : World) (hA : Fs w w.heap.size A t ts) (hA2 : Fs w w.heap.size (some a2) n xs) (hx : ∀ j, j < n → ab .f32 (wd xs j) = F j) (ht : 1 ≤ t) (ht2 : t ≤ 32) (hn : n ≤ 256) :
    Calls Try.prog 98 #[.slice A t c, .slice (some a2) n c2] w (PEB n (foldF (fun k => ab .f32 (wd ts k)) (zth F (t - 1)) (t - 1) t) true w) := by
  have htb : inB (t : Int) 1 32 = true := by simp [inB]; omega
  obtain ⟨l, hl⟩ : ∃ l, l = t - 1 := ⟨_, rfl⟩
  have el : (t : Int) - 1 = (l : Nat) := by omega
  have hmk := fun W => run_make_row' (P := Try.prog) 24 30 (.float .f32 0) 4 Try.underlying24 Try.infoF rfl .i64 .i64 l (by omega) (by omega) W
  obtain ⟨W, hW⟩ : ∃ W, W = w.alloc (.cells (madeCells #[.float .f32 0] l) 30) := ⟨_, rfl⟩
  have S0 : Hid (w.Since w.heap.size W) := Lib.hid (by rw [hW]; exact (World.Since.refl _ _).alloc (Nat.le_refl _) _)
  have zW : W.heap.size = w.heap.size + 1 := by rw [hW]; simp
  have HZ := Lib.hid (show Fs W W.heap.size (some ⟨w.heap.size, 0, none⟩) l (List.replicate l 0) by rw [zW, hW]; exact zeros_fs w l)
  have HF := Lib.hid (implFold_ok A t c l n l c2 ⟨w.heap.size, 0, none⟩ a2 ts (List.replicate l 0) xs W (hA.now S0.out) HZ.out (hA2.now S0.out) (by omega) ht2 hn)
  have HL := Lib.hid hl
  have HX := Lib.hid (apO_zeros (l := l) hx)
  rw [← hl]
  have hl3 : l ≤ 31 := by omega
  clear hA hA2 hx hl zW
  go_enter Try.func98, Try.ntmps98
  go_wp2_with (first | (go_at_call 88; refine (implTaps_b _ _ _ _ _ htb).mono ?_; rintro e w' ⟨rfl, rfl⟩) | (go_at_call 19; rw [← hW]; refine HF.out.mono ?_; rintro e w1 ⟨p, q, cp, cq, rfl, h1, h2, h3, h4, h5, h6, h7, h8⟩; have H1 := Lib.hid h1; have H3 := Lib.hid h3; have H5 := Lib.hid h5; have H8 := Lib.hid h8; clear h1 h2 h3 h4 h5 h6 h7 h8))
  go_ret2
  exact ⟨p, cp, rfl, H1.out, H3.out.less S0.out.size, fun i hi => by rw [H5.out i hi]; exact foldF_congr HX.out (by rw [H1.out] at hi; exact hi), S0.out.trans (since_mono H8.out S0.out.size)⟩
def PLn (n0 : Nat) (f0 : Nat → O) (w : World) (e : Ending) (w' : World) : Prop :=
  ∃ (A : Option Addr) (c : Nat) (xs : List Nat), e = .returned (.slice A n0 c) ∧ Hid (A = none → n0 = 0 ∧ c = 0) ∧ Hid (Gs 30 w' w.heap.size A n0 xs) ∧ Hid (Are ⟨A, n0, xs⟩ f0) ∧ Hid (w.Since w.heap.size w')
def PLs (n0 : Nat) (f0 : Nat → O) (w : World) (e : Ending) (w' : World) : Prop :=
  ∃ (b : Nat) (xs : List Nat), e = .returned (.tuple #[.slice (some ⟨b, 0, none⟩) n0 n0, .bool true]) ∧ Hid (Gs 30 w' w.heap.size (some ⟨b, 0, none⟩) n0 xs) ∧ Hid (Are ⟨some ⟨b, 0, none⟩, n0, xs⟩ f0) ∧ Hid (w.Since w.heap.size w')
set_option maxHeartbeats 4000000 in
set_option maxRecDepth 100000 in
theorem implSpreadS_ok (A : Option Addr) (n c f : Nat) (xs : List Nat) (w : World) (hA : Fs w w.heap.size A n xs) (hn : n ≤ 256) (hf : 1 ≤ f) (hf2 : f ≤ 8) (hfn : f * n ≤ 256) :
    Calls Try.prog 23 #[.int .i64 f, .slice A n c] w (PLs (n * f) (sprF xs f) w) := by
  have HA := Lib.hid hA
  have h1 : inB (f : Int) 1 8 = true := inB_tt (by omega) (by omega)
  have hfn' : n * f ≤ 256 := by rw [Nat.mul_comm]; exact hfn
  obtain ⟨m, hm⟩ : ∃ m : Nat, m = n * f := ⟨_, rfl⟩
  have HM : (f : Int) * (n : Int) = (m : Int) := by rw [hm, Int.mul_comm]; exact (Int.natCast_mul n f).symm
  have hm3 : inB (m : Int) 0 256 = true := inB_tt (by omega) (by omega)
  have HMM := Lib.hid hm
  have hm2 : m ≤ 256 := by omega
  have hmk := fun W => run_make_row' (P := Try.prog) 24 30 (.float .f32 0) 4 Try.underlying24 Try.infoF rfl .i64 .i64 m (by omega) (by omega) W
  clear hA hm
  go_enter Try.func23, Try.ntmps23
  go_wp2_with (first | (go_at_call 95; refine (implFactor_b f true _ h1).mono ?_; rintro e w1 ⟨rfl, hs1⟩; have HS1 := Lib.hid hs1; clear hs1) | (go_at_call 96; refine (implCount_b m true _ hm3).mono ?_; rintro e w2 ⟨rfl, hs2⟩; have HS2 := Lib.hid hs2; clear hs2))
  have S2 : Hid (w.Since w.heap.size w2) := Lib.hid (since_step HS1.out HS2.out)
  have z2 := S2.out.size
  clear HS1 HS2
  go_loopw [27] (fun i wr => ∃ k : Nat, k ≤ n ∧ i = .int .i64 k ∧ GCells wr w2.heap.size m (sprV xs f k) ∧ w2.Since w2.heap.size wr) (fun i _ => n - (intOf i).toNat)
  case atStart =>
    obtain ⟨cs, hb, _, hc2⟩ := (World.rowIs_made w2 (.float .f32 0) m 30)
    exact ⟨0, Nat.zero_le _, rfl, ⟨cs, hb, fun j hj => by rw [hc2 j hj]; unfold sprV; rw [if_neg (fun h => Nat.not_lt_zero _ h.2)]⟩, (World.Since.refl _ _).alloc (Nat.le_refl _) _⟩
  case round =>
    obtain ⟨k, hk, rfl, hcs, hon⟩ := hrel
    have HC := Lib.hid hcs; have HON := Lib.hid hon
    have hsz : w2.heap.size < wr.heap.size := hcs.lt
    clear hcs hon
    by_cases hlt : k < n
    · obtain ⟨g, off, rfl, hg, hc⟩ := HA.out.2.2 (by omega)
      have hcell : wr.cell? ⟨g, off + k, none⟩ = some (.float .f32 (wd xs k)) := ((HON.out.cell (a := ⟨g, off + k, none⟩) (by show g < _; omega)).trans (S2.out.cell (a := ⟨g, off + k, none⟩) hg)).trans (hc k hlt)
      obtain ⟨q, hq⟩ : ∃ q : Nat, q = k * f := ⟨_, rfl⟩
      have HQ : (f : Int) * (k : Int) = (q : Int) := by rw [hq, Int.mul_comm]; exact (Int.natCast_mul k f).symm
      have hql : q < m := by
        have : (k + 1) * f ≤ n * f := Nat.mul_le_mul_right f hlt
        rw [Nat.succ_mul] at this
        have := HMM.out
        omega
      have hcq : wr.cell? ⟨w2.heap.size, q, none⟩ = some (sprV xs f k q) := HC.out.cell hql
      have hfq : wr.frozen? ⟨w2.heap.size, q, none⟩ = false := HC.out.free _
      have HQQ := Lib.hid hq
      clear hc hq
      go_wp2
      go_roundw
      case rel =>
        refine ⟨k + 1, by omega, by go_num, (HC.out.set q _).congr (fun j hj => ?_), HON.out.setCell (Nat.le_refl _) _⟩
        unfold sprV
        by_cases e : j = q
        · subst e
          rw [if_pos rfl, HQQ.out, Nat.mul_mod_left, Nat.mul_div_cancel _ hf, if_pos ⟨rfl, by omega⟩]
        · rw [if_neg e]
          by_cases e2 : j % f = 0 ∧ j / f < k
          · rw [if_pos e2, if_pos ⟨e2.1, by omega⟩]
          · rw [if_neg e2, if_neg (fun h3 => ?_)]
            refine e2 ⟨h3.1, ?_⟩
            have h4 : j / f ≠ k := fun h5 => e (by
              have := Nat.div_add_mod j f
              rw [h3.1, h5] at this
              rw [HQQ.out, Nat.mul_comm]; omega)
            omega
      case measure => simp [intOf]; omega
    · obtain rfl : k = n := by omega
      go_wp2
      go_ret2
      obtain ⟨cs, hb, hc⟩ := HC.out
      have hw : ∀ j, j < m → (if j % f = 0 ∧ j / f < k then wd xs (j / f) else 0) = sprW xs f j := fun j hj => by
        unfold sprW
        by_cases e : j % f = 0
        · rw [if_pos e, if_pos ⟨e, (Nat.div_lt_iff_lt_mul hf).2 (by have := HMM.out; omega)⟩]
        · rw [if_neg e, if_neg (fun h => e h.1)]
      have E := HMM.out
      subst E
      refine ⟨w2.heap.size, lst (k * f) (sprW xs f), rfl, Lib.hid ⟨lst_len _ _, fun y hy => ?_, fun _ => ⟨_, cs, rfl, z2, hb, fun j hj => ?_⟩⟩, Lib.hid (fun j hj => ?_), Lib.hid (S2.out.trans (since_mono HON.out z2))⟩
      · obtain ⟨i, hi, rfl⟩ := List.mem_map.1 hy
        unfold sprW
        split
        · exact HA.out.2.1.at_ _
        · decide
      · rw [hc j hj]; unfold sprV fv; rw [hw j hj, lst_wd hj]
      · show ab .f32 (wd (lst (k * f) (sprW xs f)) j) = _
        rw [lst_wd hj]
        unfold sprW sprF
        split
        · rfl
        · exact ab0
end Go.Proofs.Ytlpbpljdfflgeaa

/- Rates: more samples, fewer samples; the model's and the program's. -/
set_option linter.unusedVariables false
set_option linter.unusedSimpArgs false
namespace Go.Proofs.Ytlpbpljdfflgeaa
open Fl Go.RowKit
def PF (n0 : Nat) (f0 : Nat → O) (w : World) (e : Ending) (w' : World) : Prop :=
  ∃ (p q : Ls) (c d : Nat), e = .returned (.tuple #[.slice p.A p.n c, .slice q.A q.n d]) ∧ Hid (p.n = n0) ∧ Hid (Ge w.heap.size w' (fe p.A p.n p.xs)) ∧ Hid (Are p f0) ∧ Hid (w.Since w.heap.size w')
def okRaise (f : Int) (t n : Nat) : Bool := inB f 1 8 && inB (t : Int) 1 32 && decide (f * (n : Int) ≤ 256)
def raiF (ts xs : List Nat) (f t : Nat) : Nat → O := foldF (fun k => ab .f32 (wd ts k)) (zth (sprF xs f) (t - 1)) (t - 1) t
end Go.Proofs.Ytlpbpljdfflgeaa

/- Rates: more samples, fewer samples; the model's LowerBy, what fails, the program's. -/
set_option linter.unusedVariables false
set_option linter.unusedSimpArgs false
namespace Go.Proofs.Ytlpbpljdfflgeaa
open Fl Go.RowKit
def okLower (f : Int) (t n : Nat) : Bool := inB f 1 8 && inB (t : Int) 1 32 && decide ((n : Int) ≤ 256)
def lowG (ts xs : List Nat) (t : Nat) : Nat → O := foldF (fun k => ab .f32 (wd ts k)) (zth (fun k => ab .f32 (wd xs k)) (t - 1)) (t - 1) t
def lowF (ts xs : List Nat) (f t k : Nat) : O := lowG ts xs t (0 + k * f)
theorem pick_are {G : Nat → O} {A : Option Addr} {n f m : Nat} {ps : List Nat} {p : Ls} (hf : 1 ≤ f) (h : Are ⟨A, n, ps⟩ G) (hp : p.n = cntP n f 0) (ha : Are p (pickF ps f 0)) : Are p (fun k => G (0 + k * f)) := fun k hk => by
  rw [ha k hk]
  unfold pickF
  exact h _ ((cntP_lt hf hf).1 (by rw [← hp]; exact hk))
end Go.Proofs.Ytlpbpljdfflgeaa

/- Walks of laws whose results are lists. -/
set_option linter.unusedVariables false
set_option linter.unusedSimpArgs false
namespace Go.Proofs.Ytlpbpljdfflgeaa
open Fl Go.RowKit
end Go.Proofs.Ytlpbpljdfflgeaa

/- Rates: the laws of RaiseBy and LowerBy. -/
set_option linter.unusedVariables false
set_option linter.unusedSimpArgs false
namespace Go.Proofs.Ytlpbpljdfflgeaa
open Fl Go.RowKit
set_option maxHeartbeats 4000000 in
theorem implZeros_no (A : Option Addr) (a2 : Addr) (t c n c2 : Nat) (w : World) (F : Nat → O) (ht : t ≤ 1048576) (hn : n ≤ 1048576) (h : ¬ (inB (t : Int) 1 32 = true ∧ n ≤ 256)) :
    Calls Try.prog 98 #[.slice A t c, .slice (some a2) n c2] w (PEB 0 F false w) := by
  cases h1 : inB (t : Int) 1 32
  · go_enter Try.func98, Try.ntmps98
    go_wp2_with (go_at_call 88; refine (implTaps_b _ _ _ _ _ h1).mono ?_; rintro e w' ⟨rfl, rfl⟩)
    go_ret2
    exact PEB.none_ (by (repeat (first | (with_reducible refine Fl.sinDrew ?_) | (with_reducible refine World.Since.drew ?_) | (with_reducible refine Fl.sinSet ?_ ?_; rotate_left) | (with_reducible refine Fl.sinAlloc ?_ ?_; rotate_left) | with_reducible exact World.Since.refl _ _ | with_reducible assumption | (with_reducible refine Fl.sinStep (by with_reducible assumption) ?_))); all_goals (first | omega | (simp; done) | (simp; omega) | (simp [go_sem]; done) | (simp [go_sem]; omega))) _
  · have hb := h1
    simp only [inB, Bool.and_eq_true, decide_eq_true_eq] at hb
    obtain ⟨l, hl⟩ : ∃ l, l = t - 1 := ⟨_, rfl⟩
    have el : (t : Int) - 1 = (l : Nat) := by omega
    have hmk := fun W => run_make_row' (P := Try.prog) 24 30 (.float .f32 0) 4 Try.underlying24 Try.infoF rfl .i64 .i64 l (by omega) (by omega) W
    obtain ⟨W, hW⟩ : ∃ W, W = w.alloc (.cells (madeCells #[.float .f32 0] l) 30) := ⟨_, rfl⟩
    have S0 : Hid (w.Since w.heap.size W) := Lib.hid (by rw [hW]; exact (World.Since.refl _ _).alloc (Nat.le_refl _) _)
    have hok : okFold t l n = false := by
      unfold okFold
      rw [h1, Bool.true_and]
      have : decide ((n : Int) ≤ 256) = false := decide_eq_false (fun h2 => h ⟨h1, by omega⟩)
      rw [this, Bool.and_false]
    have HF := Lib.hid (implFoldT_no A (some ⟨w.heap.size, 0, none⟩) (some a2) t c l n l c2 F F W ht (by omega) hok)
    have hl3 : l ≤ 31 := by omega
    clear hl h hok
    go_enter Try.func98, Try.ntmps98
    go_wp2_with (first
      | (go_at_call 88; refine (implTaps_b _ _ _ _ _ h1).mono ?_; rintro e w' ⟨rfl, rfl⟩)
      | (go_at_call 19; rw [← hW]; refine HF.out.mono ?_; rintro e w1 ⟨p, q, cp, cq, rfl, k1, k2, k3, k4, k5, k6, k7, k8⟩; have H1 := Lib.hid k1; have H3 := Lib.hid k3; have H5 := Lib.hid k5; have H8 := Lib.hid k8; clear k1 k2 k3 k4 k5 k6 k7 k8))
    go_ret2
    exact ⟨p, cp, rfl, H1.out, H3.out.less S0.out.size, H5.out, S0.out.trans (since_mono H8.out S0.out.size)⟩
set_option maxHeartbeats 4000000 in
theorem implRaise_ok (A : Option Addr) (A2 : Option Addr) (t c n c2 f : Nat) (ts xs : List Nat) (w : World) (hA : Fs w w.heap.size A t ts) (hA2 : Fs w w.heap.size A2 n xs) (ht : 1 ≤ t) (ht2 : t ≤ 32) (hn : n ≤ 256) (hf : 1 ≤ f) (hf2 : f ≤ 8) (hfn : n * f ≤ 256) :
    Calls Try.prog 25 #[.int .i64 f, .slice A t c, .slice A2 n c2] w (PEB (n * f) (raiF ts xs f t) true w) := by
  have HA := Lib.hid hA; have HA2 := Lib.hid hA2
  have HS := Lib.hid (implSpreadS_ok A2 n c2 f xs w hA2 hn hf hf2 (by rw [Nat.mul_comm]; exact hfn))
  obtain ⟨m, hm⟩ : ∃ m, m = n * f := ⟨_, rfl⟩
  rw [← hm] at HS hfn ⊢
  clear hA hA2 hm
  go_enter Try.func25, Try.ntmps25
  go_wp2_with (first
    | (go_at_call 23; refine HS.out.mono ?_; rintro e w1 ⟨b, qs, rfl, h1, h2, h3⟩)
    | (go_at_call 98; refine (implZeros_ok A t c m m ⟨b, 0, none⟩ ts qs (sprF xs f) w1 (HA.out.now h3.out) h1.out.read h2.out ht ht2 hfn).mono ?_; rintro e w2 ⟨p, cp, rfl, k1, k2, k3, k4⟩; have K1 := Lib.hid k1; have K2 := Lib.hid k2; have K3 := Lib.hid k3; have K4 := Lib.hid k4; clear k1 k2 k3 k4))
  go_ret2
  exact ⟨p, cp, rfl, K1.out, K2.out.less h3.out.size, K3.out, h3.out.trans (since_mono K4.out h3.out.size)⟩
set_option maxHeartbeats 4000000 in
theorem implRaise_no (A A2 : Option Addr) (t c n c2 : Nat) (xs : List Nat) (f : Int) (F : Nat → O) (w : World) (hA2 : Fs w w.heap.size A2 n xs) (ht : t ≤ 1048576) (hn : n ≤ 1048576) (h : okRaise f t n = false) :
    Calls Try.prog 25 #[.int .i64 f, .slice A t c, .slice A2 n c2] w (PEB 0 F false w) := by
  cases hs : okSpr f n
  · go_enter Try.func25, Try.ntmps25
    go_wp2_with (go_at_call 23; refine (implSpread_no A2 n c2 f w hn hs F).mono ?_; rintro e w1 ⟨p, cp, rfl, k1, k2, k3, k4⟩; have K4 := Lib.hid k4; clear k1 k2 k3 k4)
    go_ret2
    exact PEB.none_ K4.out _
  · obtain ⟨f', rfl, hf, hf2, hfn, hn2⟩ := okSpr_nat hs
    have HS := Lib.hid (implSpreadS_ok A2 n c2 f' xs w hA2 hn2 hf hf2 hfn)
    have hb : ¬ inB (t : Int) 1 32 = true := fun hb => by
      unfold okRaise at h
      unfold okSpr at hs
      rw [Bool.and_eq_true] at hs
      rw [hs.1, hb, hs.2] at h
      cases h
    obtain ⟨m, hm⟩ : ∃ m, m = n * f' := ⟨_, rfl⟩
    have hm2 : m ≤ 256 := by rw [hm, Nat.mul_comm]; exact hfn
    rw [← hm] at HS
    clear hA2 hm h hs
    go_enter Try.func25, Try.ntmps25
    go_wp2_with (first
      | (go_at_call 23; refine HS.out.mono ?_; rintro e w1 ⟨b, qs, rfl, h1, h2, h3⟩)
      | (go_at_call 98; refine (implZeros_no A ⟨b, 0, none⟩ t c m m w1 F ht (by omega) (fun h => hb h.1)).mono ?_; rintro e w2 ⟨p, cp, rfl, k1, k2, k3, k4⟩; have K1 := Lib.hid k1; have K2 := Lib.hid k2; have K3 := Lib.hid k3; have K4 := Lib.hid k4; clear k1 k2 k3 k4))
    go_ret2
    exact ⟨p, cp, rfl, K1.out, K2.out.less h3.out.size, K3.out, h3.out.trans (since_mono K4.out h3.out.size)⟩
set_option maxHeartbeats 4000000 in
theorem implLower_ok (A : Option Addr) (a2 : Addr) (t c n c2 f : Nat) (ts xs : List Nat) (w : World) (hA : Fs w w.heap.size A t ts) (hA2 : Fs w w.heap.size (some a2) n xs) (ht : 1 ≤ t) (ht2 : t ≤ 32) (hn : n ≤ 256) (hf : 1 ≤ f) (hf2 : f ≤ 8) :
    Calls Try.prog 26 #[.int .i64 f, .slice A t c, .slice (some a2) n c2] w (PEB (cntP n f 0) (lowF ts xs f t) true w) := by
  have HZ := Lib.hid (implZeros_ok A t c n c2 a2 ts xs (fun k => ab .f32 (wd xs k)) w hA hA2 (fun _ _ => rfl) ht ht2 hn)
  clear hA hA2
  go_enter Try.func26, Try.ntmps26
  go_wp2_with (first
    | (go_at_call 98; refine HZ.out.mono ?_; rintro e w1 ⟨p, cp, rfl, k1, k2, k3, k4⟩; have K1 := Lib.hid k1; have K2 := Lib.hid k2; have K3 := Lib.hid k3; have K4 := Lib.hid k4; clear k1 k2 k3 k4)
    | (go_at_call 24; refine (implPick_ok p.A p.n cp f 0 p.xs _ K2.out.readF (by rw [K1.out]; exact hn) hf hf2 hf).mono ?_; rintro e w2 ⟨p', cp', rfl, m1, m2, m3, m4⟩; have M1 := Lib.hid m1; have M2 := Lib.hid m2; have M3 := Lib.hid m3; have M4 := Lib.hid m4; clear m1 m2 m3 m4))
  go_ret2
  have hn0 := K1.out
  refine ⟨p', cp', rfl, by rw [M1.out, hn0], (M2.out.less K4.out.size).toE, ?_, K4.out.trans (since_mono M4.out K4.out.size)⟩
  exact pick_are (m := 0) hf (show Are ⟨p.A, p.n, p.xs⟩ _ from K3.out) M1.out M3.out
set_option maxHeartbeats 4000000 in
theorem implLower_no (A : Option Addr) (a2 : Addr) (t c n c2 : Nat) (ts xs : List Nat) (f : Int) (F : Nat → O) (w : World) (hA : Fs w w.heap.size A t ts) (hA2 : Fs w w.heap.size (some a2) n xs) (ht : t ≤ 1048576) (hn : n ≤ 1048576) (h : okLower f t n = false) :
    Calls Try.prog 26 #[.int .i64 f, .slice A t c, .slice (some a2) n c2] w (PEB 0 F false w) := by
  by_cases hok : inB (t : Int) 1 32 = true ∧ n ≤ 256
  · have hb := hok.1
    simp only [inB, Bool.and_eq_true, decide_eq_true_eq] at hb
    have hf : okPick f 0 n = false := by
      unfold okLower at h
      unfold okPick
      rw [hok.1, decide_eq_true (show (n : Int) ≤ 256 by omega), Bool.and_true, Bool.and_true] at h
      rw [h, Bool.false_and, Bool.false_and]
    have HZ := Lib.hid (implZeros_ok A t c n c2 a2 ts xs (fun k => ab .f32 (wd xs k)) w hA hA2 (fun _ _ => rfl) (by omega) (by omega) hok.2)
    clear hA hA2 hb hok
    go_enter Try.func26, Try.ntmps26
    go_wp2_with (first
      | (go_at_call 98; refine HZ.out.mono ?_; rintro e w1 ⟨p, cp, rfl, k1, k2, k3, k4⟩; have K1 := Lib.hid k1; have K4 := Lib.hid k4; clear k1 k2 k3 k4)
      | (go_at_call 24; refine (implPick_no p.A p.n cp f 0 _ (by rw [K1.out]; exact hf) F).mono ?_; rintro e w2 ⟨p', cp', rfl, m1, m2, m3, m4⟩; have M1 := Lib.hid m1; have M2 := Lib.hid m2; have M3 := Lib.hid m3; have M4 := Lib.hid m4; clear m1 m2 m3 m4))
    go_ret2
    exact ⟨p', cp', rfl, M1.out, (M2.out.less K4.out.size).toE, M3.out, K4.out.trans (since_mono M4.out K4.out.size)⟩
  · go_enter Try.func26, Try.ntmps26
    go_wp2_with (go_at_call 98; refine (implZeros_no A a2 t c n c2 w F ht hn hok).mono ?_; rintro e w1 ⟨p, cp, rfl, k1, k2, k3, k4⟩; have K4 := Lib.hid k4; clear k1 k2 k3 k4)
    go_ret2
    exact PEB.none_ K4.out _
end Go.Proofs.Ytlpbpljdfflgeaa

/- Draws: the gate as a list of its own, blocks of it, and when it is open. -/
set_option linter.unusedVariables false
set_option linter.unusedSimpArgs false
namespace Go.Proofs.Ytlpbpljdfflgeaa
open Fl Go.RowKit
/-- a list of numbers in a block of its own, with the places behind it -/
def PLIBo (n : Nat) (f : Nat → O) (i : Int) (b : Bool) (w : World) (e : Ending) (w' : World) : Prop :=
  ∃ (g c : Nat) (xs : List Nat), e = .returned (.tuple #[.slice (some ⟨g, 0, none⟩) n c, .int .i64 i, .bool b]) ∧ n ≤ c ∧ Gs 30 w' w.heap.size (some ⟨g, 0, none⟩) n xs ∧ Are ⟨some ⟨g, 0, none⟩, n, xs⟩ f ∧ w.Since w.heap.size w'
/-! blocks -/
theorem gateH_cut (X : Nat → O) (T : O) (hold held : Int) (a : Nat) : ∀ k, gateH (fun j => X (a + j)) T hold (gateH X T hold held a) k = gateH X T hold held (a + k)
  | 0 => rfl
  | k + 1 => by
    show (if geO (sizeO (X (a + k))) T then hold else _) = (if geO (sizeO (X (a + k))) T then hold else _)
    rw [gateH_cut X T hold held a k]
    rfl
theorem gateY_cut (X : Nat → O) (T : O) (hold held : Int) (a k : Nat) : gateY (fun j => X (a + j)) T hold (gateH X T hold held a) k = gateY X T hold held (a + k) := by
  unfold gateY
  rw [gateH_cut]
theorem gateH_like {X Y : Nat → O} {T : O} {hold held : Int} {n : Nat} (h : ∀ k, k < n → X k = Y k) : ∀ k, k ≤ n → gateH X T hold held k = gateH Y T hold held k
  | 0, _ => rfl
  | k + 1, hk => by
    unfold gateH
    rw [gateH_like h k (by omega), h k (by omega)]
theorem gateY_like {X Y : Nat → O} {T : O} {hold held : Int} {n : Nat} (h : ∀ k, k < n → X k = Y k) (k : Nat) (hk : k < n) : gateY X T hold held k = gateY Y T hold held k := by
  unfold gateY
  rw [gateH_like h k (by omega), h k hk]
/-! when it is open -/
/-- the last loud place before k -/
def lastO (X : Nat → O) (T : O) : Nat → Int
  | 0 => -1
  | k + 1 => if geO (sizeO (X k)) T then (k : Int) else lastO X T k
theorem lastO_in (X : Nat → O) (T : O) : ∀ k, -1 ≤ lastO X T k ∧ lastO X T k < (k : Int)
  | 0 => by unfold lastO; omega
  | k + 1 => by
    have := lastO_in X T k
    unfold lastO
    split <;> omega
theorem gateH_last (X : Nat → O) (T : O) (hold : Int) (h0 : 0 ≤ hold) : ∀ k, gateH X T hold 0 k = if 0 ≤ lastO X T k ∧ (k : Int) - 1 - lastO X T k ≤ hold then hold - ((k : Int) - 1 - lastO X T k) else 0
  | 0 => by unfold gateH lastO; simp
  | k + 1 => by
    have ih := gateH_last X T hold h0 k
    have hi := lastO_in X T k
    unfold gateH lastO
    by_cases h : geO (sizeO (X k)) T = true
    · rw [if_pos h, if_pos h, if_pos (by omega)]; omega
    · rw [if_neg h, if_neg h, ih]
      by_cases h1 : 0 ≤ lastO X T k ∧ (k : Int) - 1 - lastO X T k ≤ hold
      · rw [if_pos h1]
        by_cases h2 : 0 < hold - ((k : Int) - 1 - lastO X T k)
        · rw [if_pos h2, if_pos (by omega)]; omega
        · rw [if_neg h2, if_neg (by omega)]; omega
      · rw [if_neg h1, if_neg (by omega), if_neg (by omega)]
theorem gateY_open (X : Nat → O) (T : O) (hold : Int) (h0 : 0 ≤ hold) (k : Nat) : gateY X T hold 0 k = if 0 ≤ lastO X T (k + 1) ∧ (k : Int) - lastO X T (k + 1) ≤ hold then X k else some 0 := by
  have hH := gateH_last X T hold h0 k
  have hi := lastO_in X T k
  unfold gateY lastO
  by_cases h : geO (sizeO (X k)) T = true
  · rw [if_pos h, if_pos h, if_pos (by omega)]
  · rw [if_neg h, if_neg h, hH]
    by_cases h1 : 0 ≤ lastO X T k ∧ (k : Int) - lastO X T k ≤ hold
    · rw [if_pos h1, if_pos (by rw [if_pos (by omega)]; omega)]
    · rw [if_neg h1, if_neg]
      split <;> omega
/-! the greater one of a number and its opposite -/
theorem neg32 (b : Nat) (h : b < 4294967296) : Op.negFloat .f32 b = if b < 2147483648 then b + 2147483648 else b - 2147483648 := by
  have e2 := neg_mod .f32 b
  rw [sw32] at e2
  unfold Op.negFloat at e2 ⊢
  have e3 : (b ^^^ (2 ^ (FloatKind.f32.format.exponentBits + FloatKind.f32.format.fractionBits))) / 2147483648 = (b / 2147483648) ^^^ 1 := by
    rw [show (2 : Nat) ^ (FloatKind.f32.format.exponentBits + FloatKind.f32.format.fractionBits) = 2 ^ 31 by decide, show (2147483648 : Nat) = 2 ^ 31 by decide, ← Nat.shiftRight_eq_div_pow, Nat.shiftRight_xor_distrib, Nat.shiftRight_eq_div_pow, Nat.shiftRight_eq_div_pow]
  by_cases hb : b < 2147483648
  · rw [show b / 2147483648 = 0 by omega] at e3
    rw [if_pos hb]
    have : (0 ^^^ 1 : Nat) = 1 := by decide
    omega
  · rw [show b / 2147483648 = 1 by omega] at e3
    rw [if_neg hb]
    have : (1 ^^^ 1 : Nat) = 0 := by decide
    omega
theorem ge_key {x t : Nat} (hx : ab .f32 x = some x) (ht : ab .f32 t = some t) : geO (some x) (some t) = decide (key .f32 t ≤ key .f32 x) := by
  unfold geO gtO eqO ordO
  show ((FloatKind.f32.format.order x t == some .gt) || (FloatKind.f32.format.order x t == some .eq)) = _
  rw [order_key .f32 hx ht, cmp_def]
  rcases Int.lt_trichotomy (key .f32 x) (key .f32 t) with h | h | h
  · rw [if_pos h, decide_eq_false (by omega)]; rfl
  · rw [if_neg (by omega), if_pos h, decide_eq_true (by omega)]; rfl
  · rw [if_neg (by omega), if_neg (by omega), decide_eq_true (by omega)]; rfl
theorem ge_none (X : O) : geO X none = false := by cases X <;> rfl
theorem ge_size (x : Nat) (hx : x < 4294967296) (T : O) (t : Nat) (ht : Fv .f32 t T) : geO (sizeO (ab .f32 x)) T = (geO (ab .f32 x) T || geO (ab .f32 (Op.negFloat .f32 x)) T) := by
  obtain ⟨ht1, ht2⟩ := ht
  subst ht2
  have ht1' : t < 4294967296 := ht1
  have hm := neg_mod .f32 x
  rw [sw32] at hm
  rw [ab32 t]
  split
  · rw [ge_none, ge_none, ge_none]; rfl
  · next h1 =>
    rw [ab32 x, ab32 (Op.negFloat .f32 x), hm]
    by_cases h2 : 2139095040 < x % 2147483648
    · rw [if_pos h2, if_pos h2]; rfl
    · rw [if_neg h2, if_neg h2]
      have a1 : ab .f32 t = some t := by rw [ab32, if_neg h1]
      have a2 : ab .f32 x = some x := by rw [ab32, if_neg h2]
      have a3 : ab .f32 (Op.negFloat .f32 x) = some (Op.negFloat .f32 x) := by rw [ab32, hm, if_neg h2]
      have a4 : ab .f32 (sizeN x) = some (sizeN x) := by unfold sizeN; rw [ab32, Nat.mod_mod, if_neg h2]
      show geO (some (sizeN x)) (some t) = _
      rw [ge_key a4 a1, ge_key a2 a1, ge_key a3 a1]
      have hn := neg32 x hx
      have l3 : Op.negFloat .f32 x < 4294967296 := neg_lt .f32 hx
      have l4 : sizeN x < 4294967296 := sizeN_lt x
      rw [key32 _ l4, key32 _ hx, key32 _ l3, hn]
      unfold sizeN
      rw [← Bool.decide_or]
      congr 1
      by_cases hb : x < 2147483648
      · rw [if_pos (by omega), if_pos hb, if_pos hb, if_neg (by omega)]
        apply propext; constructor
        · intro h; left; omega
        · intro h; omega
      · rw [if_pos (by omega), if_neg hb, if_neg hb, if_pos (by omega)]
        apply propext; constructor
        · intro h; right; omega
        · intro h; omega
end Go.Proofs.Ytlpbpljdfflgeaa

/- The law of gates. -/
set_option linter.unusedVariables false
set_option linter.unusedSimpArgs false
namespace Go.Proofs.Ytlpbpljdfflgeaa
open Fl Go.RowKit
theorem Fs.head {w : World} {B n m : Nat} {A : Option Addr} {xs : List Nat} (h : Fs w B A n xs) (hm : m ≤ n) : Fs w B A m (xs.take m) :=
  ⟨by rw [List.length_take, h.1]; omega, fun x hx => h.2.1 x (List.mem_of_mem_take hx), fun h0 => by
    obtain ⟨g, off, e, hg, hc⟩ := h.2.2 (by omega)
    refine ⟨g, off, e, hg, fun k hk => ?_⟩
    rw [hc k (by omega)]
    unfold fv wd
    simp [List.getD_eq_getElem?_getD, List.getElem?_take, hk]⟩
theorem wd_take (xs : List Nat) (m k : Nat) (h : k < m) : wd (xs.take m) k = wd xs k := by unfold wd; simp [List.getD_eq_getElem?_getD, List.getElem?_take, h]
theorem Fs.tail0 {w : World} {B n m : Nat} {g : Nat} {xs : List Nat} (h : Fs w B (some ⟨g, 0, none⟩) n xs) (hm : m ≤ n) : Fs w B (some ⟨g, m, none⟩) (n - m) (xs.drop m) := by
  have h1 := Fs.tail (n := m) (m := n - m) (g := g) (off := 0) (w := w) (B := B) (xs := xs) (by rw [show m + (n - m) = n by omega]; exact h)
  rwa [Nat.zero_add] at h1
theorem Fs.cell0 {w : World} {B n g k : Nat} {xs : List Nat} (h : Fs w B (some ⟨g, 0, none⟩) n xs) (hk : k < n) : w.cell? ⟨g, k, none⟩ = some (.float .f32 (wd xs k)) ∧ g < B := by
  obtain ⟨g', off, e, hg, hc⟩ := h.2.2 (by omega)
  injection e with e
  injection e with e1 e2 _
  subst e1; subst e2
  have := hc k hk
  rw [Nat.zero_add] at this
  exact ⟨this, hg⟩
/-- an operation whose guard says yes, as one without a guard -/
theorem wpList_yes {ops : Array Oper} {rest : List Oper} {o : Oper} {a : Act} {Q : Exit → Act → World → Prop} {w : World} (hw : Region.wanted o (yielded ops a.tmps) = true)
    (h : wpList Try.prog ops Q ({ o with guard := none } :: rest) a w) : wpList Try.prog ops Q (o :: rest) a w := by
  unfold wpList at h ⊢
  rw [if_pos hw]
  rw [if_pos (by rfl)] at h
  exact h
end Go.Proofs.Ytlpbpljdfflgeaa

/- The law of folds. -/
set_option linter.unusedVariables false
set_option linter.unusedSimpArgs false
namespace Go.Proofs.Ytlpbpljdfflgeaa
open Fl Go.RowKit
theorem fsum_like {T Z Y : Nat → O} {p q : Nat} {t : Nat} (h : ∀ k, k < t → Z (p - k) = Y (q - k)) : ∀ k, k ≤ t → fsum T Z p k = fsum T Y q k
  | 0, _ => rfl
  | k + 1, hk => by
    unfold fsum
    rw [fsum_like h k (by omega), h k (by omega)]
theorem dot_fsum {ts ys : List Nat} {Z : Nat → O} {p : Nat} {t : Nat} (h : ∀ k, k < t → ab .f32 (wd ys k) = Z (p - k)) : ∀ k, k ≤ t → dotO ts ys k = fsum (fun k => ab .f32 (wd ts k)) Z p k
  | 0, _ => rfl
  | k + 1, hk => by
    unfold fsum dotO
    rw [dot_fsum h k (by omega), h k (by omega)]
theorem apO_head (ls xs : List Nat) (l a i : Nat) (h : i < l + a) : apO ls (xs.take a) l i = apO ls xs l i := by
  unfold apO
  by_cases e : i < l
  · rw [if_pos e, if_pos e]
  · rw [if_neg e, if_neg e, wd_take _ _ _ (by omega)]
theorem apO_tail (ls xs bs : List Nat) (l a n i : Nat) (hb : ∀ j, j < l → ab .f32 (wd bs j) = apO ls xs l (a + j)) (h : i < l + n) : apO bs (xs.drop a) l i = apO ls xs l (a + i) := by
  unfold apO
  by_cases e : i < l
  · rw [if_pos e]
    exact hb i e
  · rw [if_neg e, if_neg (by omega), wd_drop]
    congr 2; omega
theorem fold_head (T : Nat → O) (ls xs : List Nat) (l t a j : Nat) (ht : t = l + 1) (hj : j < a) : foldF T (apO ls (xs.take a) l) l t j = foldF T (apO ls xs l) l t j := by
  unfold foldF
  exact fsum_like (fun k hk => apO_head ls xs l a _ (by omega)) t (Nat.le_refl _)
theorem fold_tail (T : Nat → O) (ls xs bs : List Nat) (l t a n j : Nat) (ht : t = l + 1) (hb : ∀ j, j < l → ab .f32 (wd bs j) = apO ls xs l (a + j)) (hj : j < n) : foldF T (apO bs (xs.drop a) l) l t j = foldF T (apO ls xs l) l t (a + j) := by
  unfold foldF
  refine fsum_like (fun k hk => ?_) t (Nat.le_refl _)
  rw [apO_tail ls xs bs l a n _ hb (by omega)]
  congr 1; omega
theorem fold_zth (T F : Nat → O) (xs : List Nat) (l n t j : Nat) (h : ∀ j, j < n → ab .f32 (wd xs j) = F j) (ht : t = l + 1) (hj : j < n) : foldF T (apO (List.replicate l 0) xs l) l t j = foldF T (zth F l) l t j := by
  unfold foldF
  exact fsum_like (fun k hk => apO_zeros h _ (by omega)) t (Nat.le_refl _)
theorem cntP_mul (n f : Nat) (hf : 1 ≤ f) : cntP (n * f) f 0 = n := by
  unfold cntP
  rw [show n * f + f - 1 - 0 = (f - 1) + f * n by rw [Nat.mul_comm]; omega, Nat.add_mul_div_left _ _ hf, Nat.div_eq_of_lt (by omega), Nat.zero_add]
/-- two lists, as a law looks at them -/
def PFo (n0 : Nat) (f0 : Nat → O) (n1 : Nat) (f1 : Nat → O) (w : World) (e : Ending) (w' : World) : Prop :=
  ∃ (g c : Nat) (xs : List Nat) (A2 : Option Addr) (d : Nat) (ys : List Nat), e = .returned (.tuple #[.slice (some ⟨g, 0, none⟩) n0 c, .slice A2 n1 d, .bool true]) ∧ Fs w' w'.heap.size (some ⟨g, 0, none⟩) n0 xs ∧ Fs w' w'.heap.size A2 n1 ys ∧ (∀ j, j < n0 → ab .f32 (wd xs j) = f0 j) ∧ (∀ j, j < n1 → ab .f32 (wd ys j) = f1 j) ∧ (A2 = none → n1 = 0 ∧ d = 0) ∧ w.Since w.heap.size w'
theorem PEEBo.look {n0 n1 : Nat} {f0 f1 : Nat → O} {w w' : World} {e : Ending} (h : PEEBo n0 f0 n1 f1 true w e w') : PFo n0 f0 n1 f1 w e w' := by
  obtain ⟨⟨pA, pn, px⟩, ⟨qA, qn, qx⟩, c, d, rfl, h1, h2, h3, h4, h5, h6, h7, h8, ⟨g, h9⟩, h10⟩ := h
  change pn = n0 at h1
  change qn = n1 at h2
  change pA = _ at h9
  subst h1 h2 h9
  exact ⟨g, c, px, qA, d, qx, rfl, h3.readF, h4.readF, h5, h6, h10, h8⟩
/-- a list, as a law looks at it -/
def PLo (n0 : Nat) (f0 : Nat → O) (w : World) (e : Ending) (w' : World) : Prop :=
  ∃ (A : Option Addr) (c : Nat) (xs : List Nat), e = .returned (.tuple #[.slice A n0 c, .bool true]) ∧ Fs w' w'.heap.size A n0 xs ∧ (∀ j, j < n0 → ab .f32 (wd xs j) = f0 j) ∧ w.Since w.heap.size w'
theorem PEB.look {n0 : Nat} {f0 : Nat → O} {w w' : World} {e : Ending} (h : PEB n0 f0 true w e w') : PLo n0 f0 w e w' := by
  obtain ⟨⟨pA, pn, px⟩, c, rfl, h1, h3, h5, h8⟩ := h
  change pn = n0 at h1
  subst h1
  exact ⟨pA, c, px, rfl, h3.readF, h5, h8⟩
theorem PLB.look {n0 : Nat} {f0 : Nat → O} {w w' : World} {e : Ending} (h : PLB n0 f0 true w e w') : PLo n0 f0 w e w' := by
  obtain ⟨⟨pA, pn, px⟩, c, rfl, h1, h3, h5, h8⟩ := h
  change pn = n0 at h1
  subst h1
  exact ⟨pA, c, px, rfl, h3.read, h5, h8⟩
set_option maxHeartbeats 32000000 in
set_option maxRecDepth 100000 in
theorem lawFolds_any (A : Option Addr) (n c : Nat) (xs : List Int) (B : Option Addr) (m d : Nat) (ys : List Int) (w : World) (hA : Bs w w.heap.size A n xs) (hB : Bs w w.heap.size B m ys) :
    Calls Try.prog 3 #[.slice A n c, .slice B m d] w fun e w' => e = .returned (.bool true) ∧ w.Since w.heap.size w' := by
  have HA := Lib.hid hA; have HB := Lib.hid hB; clear hA hB
  cases hl : (decide ((48 : Int) < n) || decide ((48 : Int) < m))
  case true =>
    go_enter Try.func3, Try.ntmps3
    go_wp2_with fail
    refine (r8Long_any A B n c m d true w hl).mono ?_
    rintro e w1 ⟨rfl, hs⟩
    have S1 := Lib.hid hs; clear hs
    go_wp2
    go_ret
    exact ⟨rfl, S1.out⟩
  case false =>
    have hnm : n ≤ 48 ∧ m ≤ 48 := by simp only [Bool.or_eq_false_iff, decide_eq_false_iff_not] at hl; omega
    go_enter Try.func3, Try.ntmps3
    go_wp2_with fail
    refine (r8Long_any A B n c m d false w hl).mono ?_
    rintro e w1 ⟨rfl, hs⟩
    have S1 := Lib.hid hs; clear hs hl
    go_wp2_with fail
    refine (r8At_any A n c xs 40 6 w1 ((HA.out.since S1.out (Nat.le_refl _)).more S1.out.size) (by omega) (by omega)).mono ?_
    rintro e w2 ⟨vt, rfl, e1, e2, hs⟩
    have e3 := e2 (by omega)
    obtain ⟨l, rfl⟩ := Int.eq_ofNat_of_zero_le e1
    have hl5 : l ≤ 5 := by omega
    have S2 := Lib.hid (since_step S1.out hs)
    clear hs S1  e1 e2 e3
    have ht1 : (1 : Int) + (l : Int) = ((l + 1 : Nat) : Int) := by omega
    have PT := Lib.hid (show Calls Try.prog 16 #[.slice A n c, .int .i64 (1 + (l : Int))] w2 (PDr (l + 1) w2) from by rw [ht1]; exact plains_any A n c xs (l + 1) w2 ((HA.out.since S2.out (Nat.le_refl _)).more S2.out.size) (by omega) (by omega))
    clear ht1
    go_wp2_with fail
    refine (PT.out).mono ?_
    rintro e w3 ⟨gt, ct, ts, rfl, hct, hg, hs⟩
    have TF := Lib.hid hg.read
    have S3 := Lib.hid (since_step S2.out hs)
    clear hs S2  PT hg
    have PL := Lib.hid (show Calls Try.prog 16 #[.slice B m d, .int .i64 (l : Int)] w3 (PDr l w3) from plains_any B m d ys l w3 ((HB.out.since S3.out (Nat.le_refl _)).more S3.out.size) (by omega) (by omega))
    go_wp2_with fail
    refine (PL.out).mono ?_
    rintro e w4 ⟨gl, cl, ls, rfl, hcl, hg, hs⟩
    have LF := Lib.hid hg.read
    have S4 := Lib.hid (since_step S3.out hs)
    have TF' := Lib.hid ((TF.out.since hs).more hs.size)
    clear hs S3 TF PL hg
    have TF := TF'; clear TF'
    go_wp2_with fail
    refine (samples_any B m d ys 12 w4 ((HB.out.since S4.out (Nat.le_refl _)).more S4.out.size) (by omega) (by omega)).mono ?_
    rintro e w5 ⟨k, hk, gx, cx, zs, rfl, hcx, hg, hs⟩
    have XF := Lib.hid hg.read
    have S5 := Lib.hid (since_step S4.out hs)
    have TF' := Lib.hid ((TF.out.since hs).more hs.size)
    have LF' := Lib.hid ((LF.out.since hs).more hs.size)
    clear hs S4 TF LF hg
    have TF := TF'; clear TF'
    have LF := LF'; clear LF'
    go_wp2_with fail
    refine (r8At_any A n c xs 41 ((k : Int) + 1) w5 ((HA.out.since S5.out (Nat.le_refl _)).more S5.out.size) (by omega) (by omega)).mono ?_
    rintro e w6 ⟨at_, rfl, e1, e2, hs⟩
    have e3 := e2 (by omega)
    obtain ⟨a, rfl⟩ := Int.eq_ofNat_of_zero_le e1
    have ha : a ≤ k := by omega
    have S6 := Lib.hid (since_step S5.out hs)
    have TF' := Lib.hid ((TF.out.since hs).more hs.size)
    have LF' := Lib.hid ((LF.out.since hs).more hs.size)
    have XF' := Lib.hid ((XF.out.since hs).more hs.size)
    clear hs S5 TF LF XF e1 e2 e3
    have TF := TF'; clear TF'
    have LF := LF'; clear LF'
    have XF := XF'; clear XF'
    obtain ⟨T, hT⟩ : ∃ T : Nat → O, Hid (T = fun k => ab .f32 (wd ts k)) := ⟨_, Lib.hid rfl⟩
    obtain ⟨Z, hZ⟩ : ∃ Z : Nat → O, Hid (Z = apO ls zs l) := ⟨_, Lib.hid rfl⟩
    obtain ⟨Y, hY⟩ : ∃ Y : Nat → O, Hid (Y = foldF T Z l (l + 1)) := ⟨_, Lib.hid rfl⟩
    have K1 := Lib.hid (show Calls Try.prog 19 #[.slice (some ⟨gt, 0, none⟩) (l + 1) ct, .slice (some ⟨gl, 0, none⟩) l cl, .slice (some ⟨gx, 0, none⟩) k cx] w6 (PFo k Y l (offO Z k) w6) from by rw [hY.out, hZ.out, hT.out]; exact (implFold_own (some ⟨gt, 0, none⟩) (l + 1) ct l k cl cx (some ⟨gl, 0, none⟩) (some ⟨gx, 0, none⟩) (fun h => by cases h) (fun h => by cases h) ts ls zs w6 TF.out LF.out XF.out rfl (by omega) (by omega)).mono fun e w' h => h.look)
    go_wp2_with fail
    refine (K1.out).mono ?_
    rintro e w7 ⟨g1, c1, o1, A2, c2, o2, rfl, r1, r2, f1, f2, e2, hs⟩
    have V1 := Lib.hid f1; have V2 := Lib.hid f2; have E2 := Lib.hid e2
    have F1 := Lib.hid r1
    have F2 := Lib.hid r2
    have S7 := Lib.hid (since_step S6.out hs)
    have TF' := Lib.hid ((TF.out.since hs).more hs.size)
    have LF' := Lib.hid ((LF.out.since hs).more hs.size)
    have XF' := Lib.hid ((XF.out.since hs).more hs.size)
    clear hs S6 TF LF XF K1 r1 r2 f1 f2 e2
    have TF := TF'; clear TF'
    have LF := LF'; clear LF'
    have XF := XF'; clear XF'
    have K2 := Lib.hid (show Calls Try.prog 19 #[.slice (some ⟨gt, 0, none⟩) (l + 1) ct, .slice (some ⟨gl, 0, none⟩) l cl, .slice (some ⟨gx, 0, none⟩) a cx] w7 (PFo a Y l (fun j => Z (a + j)) w7) from by
      refine (implFold_own (some ⟨gt, 0, none⟩) (l + 1) ct l a cl cx (some ⟨gl, 0, none⟩) (some ⟨gx, 0, none⟩) (fun h => by cases h) (fun h => by cases h) ts ls (zs.take a) w7 TF.out LF.out (Fs.head XF.out ha) rfl (by omega) (by omega)).mono fun e w' h => ?_
      obtain ⟨gq, cq, xq, Aq, dq, yq, h1, h2, h3, h4, h5, h6, h7⟩ := h.look
      exact ⟨gq, cq, xq, Aq, dq, yq, h1, h2, h3, fun j hj => (h4 j hj).trans (by rw [hY.out, hZ.out, hT.out]; exact fold_head _ ls zs l (l + 1) a j rfl hj), fun j hj => (h5 j hj).trans (by unfold offO; rw [hZ.out]; exact apO_head ls zs l a _ (by omega)), h6, h7⟩)
    go_wp2_with fail
    refine (K2.out).mono ?_
    rintro e w8 ⟨g3, c3, o3, A4, c4, o4, rfl, r1, r2, f1, f2, e2, hs⟩
    have V3 := Lib.hid f1; have V4 := Lib.hid f2; have E4 := Lib.hid e2
    have F3 := Lib.hid r1
    have F4 := Lib.hid r2
    have S8 := Lib.hid (since_step S7.out hs)
    have TF' := Lib.hid ((TF.out.since hs).more hs.size)
    have LF' := Lib.hid ((LF.out.since hs).more hs.size)
    have XF' := Lib.hid ((XF.out.since hs).more hs.size)
    have F1' := Lib.hid ((F1.out.since hs).more hs.size)
    have F2' := Lib.hid ((F2.out.since hs).more hs.size)
    clear hs S7 TF LF XF F1 F2 K2 r1 r2 f1 f2 e2
    have TF := TF'; clear TF'
    have LF := LF'; clear LF'
    have XF := XF'; clear XF'
    have F1 := F1'; clear F1'
    have F2 := F2'; clear F2'
    have K3 := Lib.hid (show ∀ (A' : Option Addr) (c' : Nat), (A' = some ⟨gx, a, none⟩ ∨ (k - a = 0 ∧ ∃ q, A' = some q)) → Calls Try.prog 19 #[.slice (some ⟨gt, 0, none⟩) (l + 1) ct, .slice A4 l c4, .slice A' (k - a) c'] w8 (PFo (k - a) (fun j => Y (a + j)) l (offO Z k) w8) from fun A' c' hA' => by
      have hx : Fs w8 w8.heap.size A' (k - a) (zs.drop a) := by
        rcases hA' with rfl | ⟨h0, _⟩
        · exact Fs.tail0 XF.out ha
        · have := Fs.tail0 XF.out ha; exact ⟨this.1, this.2.1, fun h => by omega⟩
      refine (implFold_own (some ⟨gt, 0, none⟩) (l + 1) ct l (k - a) c4 c' A4 A' E4.out (fun h => by rcases hA' with rfl | ⟨_, q, rfl⟩ <;> cases h) ts o4 (zs.drop a) w8 TF.out F4.out hx rfl (by omega) (by omega)).mono fun e w' h => ?_
      obtain ⟨gq, cq, xq, Aq, dq, yq, h1, h2, h3, h4, h5, h6, h7⟩ := h.look
      have hb : ∀ j, j < l → ab .f32 (wd o4 j) = apO ls zs l (a + j) := fun j hj => (V4.out j hj).trans (by rw [hZ.out])
      exact ⟨gq, cq, xq, Aq, dq, yq, h1, h2, h3, fun j hj => (h4 j hj).trans (by rw [hY.out, hZ.out, hT.out]; exact fold_tail _ ls zs o4 l (l + 1) a (k - a) j rfl hb hj), fun j hj => (h5 j hj).trans (by unfold offO; rw [apO_tail ls zs o4 l a (k - a) _ hb (by omega), hZ.out]; congr 1; omega), h6, h7⟩)
    go_wp2_with fail
    case' inl h => refine (K3.out (some ⟨gx, 0, none⟩) 0 (.inr ⟨by omega, _, rfl⟩)).mono ?_
    case' inr h => refine (K3.out (some ⟨gx, a, none⟩) (cx - a) (.inl rfl)).mono ?_
    all_goals
      rintro e w9 ⟨g5, c5, o5, A6, c6, o6, rfl, r1, r2, f1, f2, e2, hs⟩
      have V5 := Lib.hid f1; have V6 := Lib.hid f2; have F5 := Lib.hid r1; have F6 := Lib.hid r2
      have S9 := Lib.hid (since_step S8.out hs)
      have TF' := Lib.hid ((TF.out.since hs).more hs.size)
      have LF' := Lib.hid ((LF.out.since hs).more hs.size)
      have XF' := Lib.hid ((XF.out.since hs).more hs.size)
      have F1' := Lib.hid ((F1.out.since hs).more hs.size)
      have F2' := Lib.hid ((F2.out.since hs).more hs.size)
      have F3' := Lib.hid ((F3.out.since hs).more hs.size)
      have F4' := Lib.hid ((F4.out.since hs).more hs.size)
      clear hs S8 TF LF XF F1 F2 F3 F4 K3 r1 r2 f1 f2 e2
      have TF := TF'; clear TF'
      have LF := LF'; clear LF'
      have XF := XF'; clear XF'
      have F1 := F1'; clear F1'
      have F2 := F2'; clear F2'
      have F3 := F3'; clear F3'
      have F4 := F4'; clear F4'
      go_wp2_with (first
        | (at_builtin; refine wpList_yes rfl ?_; refine wpList_appN rfl (.tmp 115) (.tmp 116) rfl w9.heap.size _ 0 Y rfl _ _ _ o3 _ rfl (fun h => by cases h) (Lib.hid (F3.out.since ((World.Since.refl _ _).alloc (Nat.le_refl _) _))) (fun j hj => by rw [Nat.zero_add]; exact (V3.out j hj).symm) (by omega) (by simp) (Rw.start w9 _ (Nat.le_refl _) _) ?_; intro v1 wa hRa hSa; have Ha := Lib.hid (((World.Since.refl w9.heap.size w9).alloc (Nat.le_refl _) _).trans hSa.out); clear hSa)
        | (at_builtin; refine wpList_yes rfl ?_; refine wpList_appN rfl (.tmp 117) (.tmp 118) rfl w9.heap.size _ (0 + a) Y rfl _ _ _ o5 _ rfl (fun h => by cases h) (Lib.hid (F5.out.since Ha.out)) (fun j hj => by rw [Nat.zero_add]; exact (V5.out j hj).symm) (by omega) Ha.out.size hRa.out ?_; intro v2 wb hRb hSb; have Hb := Lib.hid (Ha.out.trans hSb.out); clear hSb; obtain ⟨⟨pA, pn, px⟩, cq, rfl, hpn, hgp, hap⟩ := hRb.out.done; simp only at hpn hgp; have hpk : k = pn := (by omega); subst hpk; have GP := Lib.hid hgp.read; have AP := Lib.hid hap; clear hgp hap hRa hRb hpn)
        | (go_at_call_of 20 (Value.slice (some ⟨g1, 0, none⟩) k c1); refine (r8Same_any _ _ k _ _ px o1 wb GP.out ((F1.out.since Hb.out).more Hb.out.size) (by omega) (fun j hj => (AP.out j hj).trans (V1.out j hj).symm)).mono ?_; rintro e wc ⟨rfl, hs⟩; have T1 := Lib.hid (Hb.out.trans (since_mono hs Hb.out.size)); clear hs GP AP Hb Ha)
        | (go_at_call_of 20 (Value.slice A2 l c2); refine (r8Same_any _ _ l _ _ o2 o6 wc ((F2.out.since T1.out).more T1.out.size) ((F6.out.since T1.out).more T1.out.size) (by omega) (fun j hj => (V2.out j hj).trans (V6.out j hj).symm)).mono ?_; rintro e wD ⟨rfl, hs⟩; have TD := Lib.hid (T1.out.trans (since_mono hs T1.out.size)); clear hs T1)
        | (at_builtin; refine wpList_appN rfl (.tmp 130) (.tmp 131) rfl wD.heap.size _ 0 Z rfl _ _ _ ls _ rfl (fun h => by cases h) (Lib.hid (((LF.out.since TD.out).more TD.out.size).since ((World.Since.refl _ _).alloc (Nat.le_refl _) _))) (fun j hj => by rw [Nat.zero_add, hZ.out]; unfold apO; rw [if_pos hj]) (by omega) (by simp) (Rw.start wD _ (Nat.le_refl _) _) ?_; intro v1 wa hRa hSa; have Ha := Lib.hid (((World.Since.refl wD.heap.size wD).alloc (Nat.le_refl _) _).trans hSa.out); clear hSa)
        | (at_builtin; refine wpList_appN rfl (.tmp 132) (.tmp 133) rfl wD.heap.size _ (0 + l) Z rfl _ _ _ zs _ rfl (fun h => by cases h) (Lib.hid (((XF.out.since TD.out).more TD.out.size).since Ha.out)) (fun j hj => by rw [Nat.zero_add, hZ.out]; unfold apO; rw [if_neg (by omega)]; congr 2; omega) (by omega) Ha.out.size hRa.out ?_; intro v2 wE hRb hSb; have Hb := Lib.hid (Ha.out.trans hSb.out); clear hSb; obtain ⟨⟨qA, qn, qx⟩, cq2, rfl, hqn, hgq, haq⟩ := hRb.out.done; simp only at hqn hgq; have LQ := Lib.hid (show qn = l + k by omega); have ZF := Lib.hid hgq.read; have ZV := Lib.hid haq; clear hgq haq hRa hRb hqn))
      have hs := TD.out.trans (since_mono Hb.out TD.out.size)
      have S10 := Lib.hid (since_step S9.out hs)
      have TF' := Lib.hid ((TF.out.since hs).more hs.size)
      have LF' := Lib.hid ((LF.out.since hs).more hs.size)
      have XF' := Lib.hid ((XF.out.since hs).more hs.size)
      have F1' := Lib.hid ((F1.out.since hs).more hs.size)
      have F2' := Lib.hid ((F2.out.since hs).more hs.size)
      have F3' := Lib.hid ((F3.out.since hs).more hs.size)
      have F4' := Lib.hid ((F4.out.since hs).more hs.size)
      have F5' := Lib.hid ((F5.out.since hs).more hs.size)
      have F6' := Lib.hid ((F6.out.since hs).more hs.size)
      clear hs TD Hb Ha S9 TF LF XF F1 F2 F3 F4 F5 F6
      have TF := TF'; clear TF'
      have LF := LF'; clear LF'
      have XF := XF'; clear XF'
      have F1 := F1'; clear F1'
      have F2 := F2'; clear F2'
      have F3 := F3'; clear F3'
      have F4 := F4'; clear F4'
      have F5 := F5'; clear F5'
      have F6 := F6'; clear F6'
      clear V2 V3 V4 V5 V6 E2 E4
      try clear E6
      go_loopw [19] (fun i wr => ∃ j : Nat, j ≤ k ∧ i = .int .i64 (j : Int) ∧ wE.Since wE.heap.size wr) (fun i _ => k - (intOf i).toNat)
      case atStart => exact ⟨0, Nat.zero_le _, rfl, World.Since.refl _ _⟩
      case round =>
        obtain ⟨j, hj, rfl, ho⟩ := hrel
        obtain ⟨wo, hwo⟩ : ∃ v, v = wr := ⟨_, rfl⟩
        subst hwo
        have HO := Lib.hid ho; clear ho
        have zo := HO.out.size
        by_cases hlt : j < k
        · go_wp2_with fail
          go_loopw [20, 21] (fun v q wv => ∃ p : Nat, p ≤ l + 1 ∧ q = .int .i64 (p : Int) ∧ Rw wo.heap.size wv v p (fun p => Z (l + j - p)) ∧ wo.Since wo.heap.size wv) (fun _ q _ => l + 1 - (intOf q).toNat)
          case atStart => exact ⟨0, Nat.zero_le _, rfl, Rw.start wo _ (Nat.le_refl _) _, (World.Since.refl _ _).alloc (Nat.le_refl _) _⟩
          case round =>
            obtain ⟨p, hp, rfl, hr, hs⟩ := hrel
            have HR := Lib.hid hr; have HS := Lib.hid hs
            have zs_ := hs.size
            clear hr hs
            by_cases hl2 : p < l + 1
            · obtain ⟨gq, oq, rfl, hgq, hcq⟩ := ZF.out.2.2 (by have := LQ.out; omega)
              obtain ⟨ix, hix⟩ : ∃ ix, ix = l + j - p := ⟨_, rfl⟩
              have hcell : wr.cell? ⟨gq, oq + ix, none⟩ = some (.float .f32 (wd qx ix)) := (HS.out.cell (a := ⟨gq, oq + ix, none⟩) (by show gq < _; omega)).trans ((HO.out.cell (a := ⟨gq, oq + ix, none⟩) hgq).trans (hcq ix (by have := LQ.out; omega)))
              have hz : Hid (Fv .f32 (wd qx ix) (Z (l + j - p))) := Lib.hid ⟨ZF.out.2.1.at_ _, by rw [← hix]; exact ZV.out ix (by show ix < qn; have := LQ.out; omega)⟩
              have ep : ((l : Int) + (j : Int)) - (p : Int) = (ix : Nat) := by omega
              have hin : ix < qn := by have := LQ.out; omega
              clear hcq hix
              go_wp2_with (at_builtin; refine wpList_app1 rfl (.tmp 148) (.tmp 158) rfl wo.heap.size _ p (fun p => Z (l + j - p)) rfl _ _ rfl (by simp [go_sem]) (by omega) (by simp; omega) hz (HR.out.alloc _) ?_; intro v' w3 hR3 hS3)
              go_roundw
              case rel => exact ⟨p + 1, by omega, by go_num, hR3.out, HS.out.trans (((World.Since.refl _ _).alloc zs_ _).trans hS3.out)⟩
              case measure => simp [intOf]; omega
            · obtain rfl : p = l + 1 := by omega
              obtain ⟨Ap, cp, ps, rfl, _, _, _, hgp2, hap2⟩ := HR.out.end_
              have PF_ := Lib.hid hgp2.read; have PV := Lib.hid hap2
              clear hgp2 hap2
              have hsw : Hid (wE.Since wE.heap.size wr) := Lib.hid (since_step HO.out HS.out)
              have hd : dotO ts ps (l + 1) = Y j := by
                rw [hY.out, hT.out]
                exact dot_fsum (Z := Z) (p := l + j) (fun q hq => PV.out q hq) (l + 1) (Nat.le_refl _)
              have HD := Lib.hid hd; clear hd
              obtain ⟨c1x, b1x⟩ := Fs.cell0 F1.out hlt
              have ko : wr.cell? ⟨g1, j, none⟩ = some (.float .f32 (wd o1 j)) := (hsw.out.cell (a := ⟨g1, j, none⟩) b1x).trans c1x
              have hw2 := F1.out.2.1.at_ j
              clear c1x
              have KD := Lib.hid (show ∀ cq : Nat, Calls Try.prog 21 #[.slice (some ⟨gt, 0, none⟩) (l + 1) ct, .slice Ap (l + 1) cq] wr (fun e w' => ∃ r q : Nat, e = .returned (.tuple #[.float .f32 r, .bool true]) ∧ Fv .f32 r (Y j) ∧ w' = wr.drewN q) from fun cq => by
                refine (implDot_any _ _ _ ts _ _ _ ps wr wr.heap.size ((TF.out.since hsw.out).more hsw.out.size) PF_.out (by omega) (by omega)).mono ?_
                rintro e w4 ⟨r, q, he, hv, hw4⟩
                rw [if_pos ⟨by omega, rfl⟩, HD.out] at hv
                rw [decide_eq_true (show l + 1 ≤ 256 ∧ l + 1 = l + 1 from ⟨by omega, rfl⟩)] at he
                exact ⟨r, q, he, hv, hw4⟩)
              go_wp2_with (first
                | (go_at_call 21; refine (KD.out _).mono ?_; rintro e w4 ⟨rd_, md_, rfl, hv, rfl⟩; have hv1 := hv.1; have he : decide (bitsO (ab .f32 rd_) = bitsO (ab .f32 (wd o1 j))) = true := decide_eq_true (by rw [hv.2, V1.out j hlt]); clear hv)
                | (go_at_call 22; refine (implSame_any _ _ _ hv1 hw2).mono ?_; rw [he]; rintro e w5 ⟨rfl, rfl⟩))
              go_roundw
              case rel => exact ⟨j + 1, by omega, by go_num, since_drewN hsw.out _⟩
              case measure => simp [intOf]; omega
        · obtain rfl : j = k := by omega
          have hs := HO.out
          have S11 := Lib.hid (since_step S10.out hs)
          have TF' := Lib.hid ((TF.out.since hs).more hs.size)
          have LF' := Lib.hid ((LF.out.since hs).more hs.size)
          have XF' := Lib.hid ((XF.out.since hs).more hs.size)
          have F1' := Lib.hid ((F1.out.since hs).more hs.size)
          have F2' := Lib.hid ((F2.out.since hs).more hs.size)
          have F3' := Lib.hid ((F3.out.since hs).more hs.size)
          have F4' := Lib.hid ((F4.out.since hs).more hs.size)
          have F5' := Lib.hid ((F5.out.since hs).more hs.size)
          have F6' := Lib.hid ((F6.out.since hs).more hs.size)
          have ZF' := Lib.hid ((ZF.out.since hs).more hs.size)
          clear hs HO ZV S10 TF LF XF F1 F2 F3 F4 F5 F6 ZF
          have TF := TF'; clear TF'
          have LF := LF'; clear LF'
          have XF := XF'; clear XF'
          have F1 := F1'; clear F1'
          have F2 := F2'; clear F2'
          have F3 := F3'; clear F3'
          have F4 := F4'; clear F4'
          have F5 := F5'; clear F5'
          have F6 := F6'; clear F6'
          have ZF := ZF'; clear ZF'
          clear ZF F1 F2 F3 F4 F5 F6 V1
          go_wp2_with fail
          refine (r8At_any A n c xs 42 4 wo ((HA.out.since S11.out (Nat.le_refl _)).more S11.out.size) (by omega) (by omega)).mono ?_
          rintro e w12 ⟨vf, rfl, e1, e2, hs⟩
          have e3 := e2 (by omega)
          obtain ⟨f0, rfl⟩ := Int.eq_ofNat_of_zero_le e1
          obtain ⟨f, hf⟩ : ∃ f, f = f0 + 1 := ⟨_, rfl⟩
          have hff : (1 : Int) + (f0 : Int) = (f : Int) := by omega
          have hf1 : 1 ≤ f := by omega
          have hf4 : f ≤ 4 := by omega
          have hfk : f * j ≤ 48 := Nat.le_trans (Nat.mul_le_mul hf4 hk) (by decide)
          have hkf : j * f ≤ 48 := by rw [Nat.mul_comm]; exact hfk
          have S12 := Lib.hid (since_step S11.out hs)
          have TF' := Lib.hid ((TF.out.since hs).more hs.size)
          have XF' := Lib.hid ((XF.out.since hs).more hs.size)
          clear hs S11 TF XF e1 e2 e3
          have TF := TF'; clear TF'
          have XF := XF'; clear XF'
          have hmk := fun W => run_make_row' (P := Try.prog) 24 30 (.float .f32 0) 4 Try.underlying24 Try.infoF rfl .i64 .i64 l (by omega) (by omega) W
          clear hf
          rename (∀ (a : Act) (w : World), Code.wp Try.prog _ _ a w → _) => ak
          have AK := Lib.hid ak; clear ak
          go_wp2_with fail
          clear hff
          refine AK.out _ _ ?_
          clear AK
          go_wp2_with fail
          generalize hW : World.alloc w12 _ = wZ
          obtain ⟨gz, hgz⟩ : ∃ q, Hid (q = w12.heap.size) := ⟨_, Lib.hid rfl⟩
          have ZF : Hid (Fs wZ wZ.heap.size (some ⟨gz, 0, none⟩) l (List.replicate l 0)) := Lib.hid (by rw [← hW, hgz.out, Go.Deep.nblk_alloc]; exact zeros_fs w12 l)
          have hs : w12.Since w12.heap.size wZ := by rw [← hW]; exact (World.Since.refl _ _).alloc (Nat.le_refl _) _
          have S13 := Lib.hid (since_step S12.out hs)
          have TF' := Lib.hid ((TF.out.since hs).more hs.size)
          have XF' := Lib.hid ((XF.out.since hs).more hs.size)
          clear hs S12 TF XF hW hmk
          have TF := TF'; clear TF'
          have XF := XF'; clear XF'
          rw [← hgz.out]
          clear hgz
          have Q1 := Lib.hid (show ∀ cy : Nat, Calls Try.prog 23 #[.int .i64 (f : Int), .slice (some ⟨gx, 0, none⟩) j cy] wZ (PLs (j * f) (sprF zs f) wZ) from fun cy => implSpreadS_ok _ j cy f zs wZ XF.out (by omega) hf1 (by omega) (by omega))
          refine (Q1.out _).mono ?_
          rintro e w14 ⟨gw, ws, rfl, r1, r2, hs⟩
          have WV : Hid (∀ i, i < j * f → ab .f32 (wd ws i) = sprF zs f i) := Lib.hid fun i hi => r2.out i hi
          have hs := hs.out
          have WF := Lib.hid r1.out.read
          have S14 := Lib.hid (since_step S13.out hs)
          have TF' := Lib.hid ((TF.out.since hs).more hs.size)
          have XF' := Lib.hid ((XF.out.since hs).more hs.size)
          have ZF' := Lib.hid ((ZF.out.since hs).more hs.size)
          clear hs S13 TF XF ZF r1 r2 Q1
          have TF := TF'; clear TF'
          have XF := XF'; clear XF'
          have ZF := ZF'; clear ZF'
          have Q2 := Lib.hid (show Calls Try.prog 24 #[.int .i64 (f : Int), .int .i64 0, .slice (some ⟨gw, 0, none⟩) (j * f) (j * f)] w14 (PLo j (fun i => ab .f32 (wd zs i)) w14) from by
            have h := implPick_ok (some ⟨gw, 0, none⟩) (j * f) (j * f) f 0 ws w14 WF.out (by omega) hf1 (by omega) (by omega)
            rw [cntP_mul j f hf1] at h
            refine h.mono fun e w' h => ?_
            obtain ⟨A', c', x', h1, h2, h3, h4⟩ := PLB.look h
            refine ⟨A', c', x', h1, h2, fun i hi => (h3 i hi).trans ?_, h4⟩
            unfold pickF
            rw [Nat.zero_add, WV.out (i * f) (Nat.mul_lt_mul_of_pos_right hi hf1)]
            exact spr_hd zs i hf1)
          go_wp2_with fail
          refine (Q2.out).mono ?_
          rintro e w15 ⟨A7, c7, o7, rfl, r1, r2, hs⟩
          have V7 := Lib.hid r2
          have F7 := Lib.hid r1
          have S15 := Lib.hid (since_step S14.out hs)
          have TF' := Lib.hid ((TF.out.since hs).more hs.size)
          have XF' := Lib.hid ((XF.out.since hs).more hs.size)
          have ZF' := Lib.hid ((ZF.out.since hs).more hs.size)
          have WF' := Lib.hid ((WF.out.since hs).more hs.size)
          clear hs S14 TF XF ZF WF r1 r2 Q2
          have TF := TF'; clear TF'
          have XF := XF'; clear XF'
          have ZF := ZF'; clear ZF'
          have WF := WF'; clear WF'
          have Q3 := Lib.hid (show ∀ cy : Nat, Calls Try.prog 25 #[.int .i64 (f : Int), .slice (some ⟨gt, 0, none⟩) (l + 1) ct, .slice (some ⟨gx, 0, none⟩) j cy] w15 (PLo (j * f) (raiF ts zs f (l + 1)) w15) from fun cy => (implRaise_ok _ _ (l + 1) ct j cy f ts zs w15 TF.out XF.out (by omega) (by omega) (by omega) hf1 (by omega) (by omega)).mono fun e w' h => h.look)
          go_wp2_with fail
          refine (Q3.out _).mono ?_
          rintro e w16 ⟨A8, c8, o8, rfl, r1, r2, hs⟩
          have V8 := Lib.hid r2
          have F8 := Lib.hid r1
          have S16 := Lib.hid (since_step S15.out hs)
          have TF' := Lib.hid ((TF.out.since hs).more hs.size)
          have XF' := Lib.hid ((XF.out.since hs).more hs.size)
          have ZF' := Lib.hid ((ZF.out.since hs).more hs.size)
          have WF' := Lib.hid ((WF.out.since hs).more hs.size)
          have F7' := Lib.hid ((F7.out.since hs).more hs.size)
          clear hs S15 TF XF ZF WF F7 r1 r2 Q3
          have TF := TF'; clear TF'
          have XF := XF'; clear XF'
          have ZF := ZF'; clear ZF'
          have WF := WF'; clear WF'
          have F7 := F7'; clear F7'
          have Q4 := Lib.hid (show ∀ cy : Nat, Calls Try.prog 26 #[.int .i64 (f : Int), .slice (some ⟨gt, 0, none⟩) (l + 1) ct, .slice (some ⟨gx, 0, none⟩) j cy] w16 (PLo (cntP j f 0) (lowF ts zs f (l + 1)) w16) from fun cy => (implLower_ok _ _ (l + 1) ct j cy f ts zs w16 TF.out XF.out (by omega) (by omega) (by omega) hf1 (by omega)).mono fun e w' h => h.look)
          go_wp2_with fail
          refine (Q4.out _).mono ?_
          rintro e w17 ⟨A9, c9, o9, rfl, r1, r2, hs⟩
          have V9 := Lib.hid r2
          have F9 := Lib.hid r1
          have S17 := Lib.hid (since_step S16.out hs)
          have TF' := Lib.hid ((TF.out.since hs).more hs.size)
          have XF' := Lib.hid ((XF.out.since hs).more hs.size)
          have ZF' := Lib.hid ((ZF.out.since hs).more hs.size)
          have WF' := Lib.hid ((WF.out.since hs).more hs.size)
          have F7' := Lib.hid ((F7.out.since hs).more hs.size)
          have F8' := Lib.hid ((F8.out.since hs).more hs.size)
          clear hs S16 TF XF ZF WF F7 F8 r1 r2 Q4
          have TF := TF'; clear TF'
          have XF := XF'; clear XF'
          have ZF := ZF'; clear ZF'
          have WF := WF'; clear WF'
          have F7 := F7'; clear F7'
          have F8 := F8'; clear F8'
          have Q5 := Lib.hid (show Calls Try.prog 19 #[.slice (some ⟨gt, 0, none⟩) (l + 1) ct, .slice (some ⟨gz, 0, none⟩) l l, .slice (some ⟨gw, 0, none⟩) (j * f) (j * f)] w17 (PFo (j * f) (raiF ts zs f (l + 1)) l (offO (apO (List.replicate l 0) ws l) (j * f)) w17) from by
            refine (implFold_own _ (l + 1) ct l (j * f) l (j * f) (some ⟨gz, 0, none⟩) (some ⟨gw, 0, none⟩) (fun h => by cases h) (fun h => by cases h) ts (List.replicate l 0) ws w17 TF.out ZF.out WF.out rfl (by omega) (by omega)).mono fun e w' h => ?_
            obtain ⟨gq, cq, xq, Aq, dq, yq, h1, h2, h3, h4, h5, h6, h7⟩ := h.look
            exact ⟨gq, cq, xq, Aq, dq, yq, h1, h2, h3, fun i hi => (h4 i hi).trans (fold_zth _ (sprF zs f) ws l (j * f) (l + 1) i WV.out rfl hi), h5, h6, h7⟩)
          go_wp2_with fail
          refine (Q5.out).mono ?_
          rintro e w18 ⟨g10, c10, o10, A11, c11, o11, rfl, r1, r2, f1, f2, e2, hs⟩
          have V10 := Lib.hid f1
          have F10 := Lib.hid r1
          have S18 := Lib.hid (since_step S17.out hs)
          have TF' := Lib.hid ((TF.out.since hs).more hs.size)
          have XF' := Lib.hid ((XF.out.since hs).more hs.size)
          have ZF' := Lib.hid ((ZF.out.since hs).more hs.size)
          have WF' := Lib.hid ((WF.out.since hs).more hs.size)
          have F7' := Lib.hid ((F7.out.since hs).more hs.size)
          have F8' := Lib.hid ((F8.out.since hs).more hs.size)
          have F9' := Lib.hid ((F9.out.since hs).more hs.size)
          clear hs S17 TF XF ZF WF F7 F8 F9 Q5 r1 r2 f1 f2 e2
          have TF := TF'; clear TF'
          have XF := XF'; clear XF'
          have ZF := ZF'; clear ZF'
          have WF := WF'; clear WF'
          have F7 := F7'; clear F7'
          have F8 := F8'; clear F8'
          have F9 := F9'; clear F9'
          have Q6 := Lib.hid (show ∀ cy : Nat, Calls Try.prog 19 #[.slice (some ⟨gt, 0, none⟩) (l + 1) ct, .slice (some ⟨gz, 0, none⟩) l l, .slice (some ⟨gx, 0, none⟩) j cy] w18 (PFo j (lowG ts zs (l + 1)) l (offO (apO (List.replicate l 0) zs l) j) w18) from fun cy => by
            refine (implFold_own _ (l + 1) ct l j l cy (some ⟨gz, 0, none⟩) (some ⟨gx, 0, none⟩) (fun h => by cases h) (fun h => by cases h) ts (List.replicate l 0) zs w18 TF.out ZF.out XF.out rfl (by omega) (by omega)).mono fun e w' h => ?_
            obtain ⟨gq, cq, xq, Aq, dq, yq, h1, h2, h3, h4, h5, h6, h7⟩ := h.look
            exact ⟨gq, cq, xq, Aq, dq, yq, h1, h2, h3, fun i hi => (h4 i hi).trans (fold_zth _ (fun k => ab .f32 (wd zs k)) zs l j (l + 1) i (fun _ _ => rfl) rfl hi), h5, h6, h7⟩)
          go_wp2_with fail
          refine (Q6.out _).mono ?_
          rintro e w19 ⟨g12, c12, o12, A13, c13, o13, rfl, r1, r2, f1, f2, e2, hs⟩
          have V12 := Lib.hid f1
          have F12 := Lib.hid r1
          have S19 := Lib.hid (since_step S18.out hs)
          have TF' := Lib.hid ((TF.out.since hs).more hs.size)
          have XF' := Lib.hid ((XF.out.since hs).more hs.size)
          have ZF' := Lib.hid ((ZF.out.since hs).more hs.size)
          have WF' := Lib.hid ((WF.out.since hs).more hs.size)
          have F7' := Lib.hid ((F7.out.since hs).more hs.size)
          have F8' := Lib.hid ((F8.out.since hs).more hs.size)
          have F9' := Lib.hid ((F9.out.since hs).more hs.size)
          have F10' := Lib.hid ((F10.out.since hs).more hs.size)
          clear hs S18 TF XF ZF WF F7 F8 F9 F10 Q6 r1 r2 f1 f2 e2
          have TF := TF'; clear TF'
          have XF := XF'; clear XF'
          have ZF := ZF'; clear ZF'
          have WF := WF'; clear WF'
          have F7 := F7'; clear F7'
          have F8 := F8'; clear F8'
          have F9 := F9'; clear F9'
          have F10 := F10'; clear F10'
          have Q7 := Lib.hid (show Calls Try.prog 24 #[.int .i64 (f : Int), .int .i64 0, .slice (some ⟨g12, 0, none⟩) j c12] w19 (PLo (cntP j f 0) (lowF ts zs f (l + 1)) w19) from by
            have h := implPick_ok (some ⟨g12, 0, none⟩) j c12 f 0 o12 w19 F12.out (by omega) hf1 (by omega) (by omega)
            refine h.mono fun e w' h => ?_
            obtain ⟨A', c', x', h1, h2, h3, h4⟩ := PLB.look h
            refine ⟨A', c', x', h1, h2, fun i hi => (h3 i hi).trans ?_, h4⟩
            unfold pickF lowF
            exact V12.out (0 + i * f) ((cntP_lt hf1 (by omega)).1 hi))
          go_wp2_with fail
          refine (Q7.out).mono ?_
          rintro e w20 ⟨A14, c14, o14, rfl, r1, r2, hs⟩
          have V14 := Lib.hid r2
          have F14 := Lib.hid r1
          have S20 := Lib.hid (since_step S19.out hs)
          have TF' := Lib.hid ((TF.out.since hs).more hs.size)
          have XF' := Lib.hid ((XF.out.since hs).more hs.size)
          have ZF' := Lib.hid ((ZF.out.since hs).more hs.size)
          have WF' := Lib.hid ((WF.out.since hs).more hs.size)
          have F7' := Lib.hid ((F7.out.since hs).more hs.size)
          have F8' := Lib.hid ((F8.out.since hs).more hs.size)
          have F9' := Lib.hid ((F9.out.since hs).more hs.size)
          have F10' := Lib.hid ((F10.out.since hs).more hs.size)
          have F12' := Lib.hid ((F12.out.since hs).more hs.size)
          clear hs S19 TF XF ZF WF F7 F8 F9 F10 F12 r1 r2 Q7
          have TF := TF'; clear TF'
          have XF := XF'; clear XF'
          have ZF := ZF'; clear ZF'
          have WF := WF'; clear WF'
          have F7 := F7'; clear F7'
          have F8 := F8'; clear F8'
          have F9 := F9'; clear F9'
          have F10 := F10'; clear F10'
          have F12 := F12'; clear F12'
          have hcn : cntP j f 0 ≤ 400 := Nat.le_trans (cntP_le hf1) (by omega)
          go_wp2_with (first
            | (go_at_call_of 20 (Value.slice A7 j c7); refine (r8Same_any _ _ j _ _ o7 zs w20 F7.out XF.out (by omega) (fun i hi => V7.out i hi)).mono ?_; rintro e wa ⟨rfl, hs⟩; have T1 := Lib.hid hs; clear hs)
            | (go_at_call_of 20 (Value.slice A8 (j * f) c8); refine (r8Same_any _ _ (j * f) _ _ o8 o10 wa ((F8.out.since T1.out).more T1.out.size) ((F10.out.since T1.out).more T1.out.size) (by omega) (fun i hi => (V8.out i hi).trans (V10.out i hi).symm)).mono ?_; rintro e wb ⟨rfl, hs⟩; have T2 := Lib.hid (T1.out.trans (since_mono hs T1.out.size)); clear hs)
            | (go_at_call_of 20 (Value.slice A9 (cntP j f 0) c9); refine (r8Same_any _ _ (cntP j f 0) _ _ o9 o14 wb ((F9.out.since T2.out).more T2.out.size) ((F14.out.since T2.out).more T2.out.size) (by omega) (fun i hi => (V9.out i hi).trans (V14.out i hi).symm)).mono ?_; rintro e wc ⟨rfl, hs⟩; have T3 := Lib.hid (T2.out.trans (since_mono hs T2.out.size)); clear hs))
          go_ret
          exact ⟨rfl, S20.out.trans (since_mono T3.out S20.out.size)⟩
end Go.Proofs.Ytlpbpljdfflgeaa

