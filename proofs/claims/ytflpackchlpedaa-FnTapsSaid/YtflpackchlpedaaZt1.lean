/- Joined: Md Me Ta Ac Zc Zd Ze K24 K25 Hc Hd He Hf Hg K26 Zh Zi Zj K27 Jk Hh Ei Hi Hj P1 Lm Ln K29 K28 -/
import Derived.Test.YtflpackchlpedaaHb
import Derived.Test.YtflpackchlpedaaMb
import Derived.StillTailTactics
import Derived.Laws.AppendOwnNone
import Derived.Test.YtflpackchlpedaaEc
import Derived.Test.YtflpackchlpedaaDm
import Derived.Test.YtflpackchlpedaaDs
import Derived.Test.YtflpackchlpedaaMa
import Derived.Test.YtflpackchlpedaaIl
import Derived.Test.YtflpackchlpedaaDl
import Derived.BigQuiet
import Derived.Test.YtflpackchlpedaaEg
import Derived.Test.YtflpackchlpedaaSc
import Derived.Test.YtflpackchlpedaaFr
import Derived.Test.YtflpackchlpedaaEh
import Derived.Test.YtflpackchlpedaaLl
/- Walks of laws whose results are lists. -/
set_option linter.unusedVariables false
set_option linter.unusedSimpArgs false
namespace Go.Proofs.Ytflpackchlpedaa
open Fl Go.RowKit
end Go.Proofs.Ytflpackchlpedaa

/- ValidTaps, of the model and of the program. -/
set_option linter.unusedVariables false
set_option linter.unusedSimpArgs false
namespace Go.Proofs.Ytflpackchlpedaa
open Fl Go.RowKit
/-- the first k taps are in their limits -/
def tapsOk (x : Nat → TapR) (k : Nat) : Prop := ∀ j, j < k → 0 ≤ (x j).b ∧ (x j).b ≤ 64
theorem specIn_bt (l a b : Int) (bb : Bool) (w : World) (h : (decide (a ≤ l) && decide (l ≤ b)) = bb) : Calls Try.prog 70 #[.int .i64 l, .int .i64 a, .int .i64 b] w fun e w' => e = .returned (.bool bb) ∧ w = w' := by
  subst h
  cases h1 : decide (a ≤ l)
  · go_enter Try.func70, Try.ntmps70
    go_wp2
    go_ret
    exact ⟨rfl, rfl⟩
  · go_enter Try.func70, Try.ntmps70
    go_wp2
    go_ret
    exact ⟨rfl, rfl⟩
theorem tapClos_b (b : Int) (g : Nat) (bb : Bool) (w : World) (h : (decide (0 ≤ b) && decide (b ≤ 64)) = bb) : Calls Try.prog 35 #[.agg #[.int .i64 b, .float .f32 g]] w fun e w' => e = .returned (.bool bb) ∧ w.Since w.heap.size w' := by
  subst h
  cases h1 : decide (0 ≤ b)
  · go_enter Try.func35, Try.ntmps35
    go_wp2
    go_ret
    exact ⟨rfl, by (repeat (first | (with_reducible refine Fl.sinDrew ?_) | (with_reducible refine World.Since.drew ?_) | (with_reducible refine Fl.sinSet ?_ ?_; rotate_left) | (with_reducible refine Fl.sinAlloc ?_ ?_; rotate_left) | with_reducible exact World.Since.refl _ _ | with_reducible assumption | (with_reducible refine Fl.sinStep (by with_reducible assumption) ?_))); all_goals (first | omega | (simp; done) | (simp; omega) | (simp [go_sem]; done) | (simp [go_sem]; omega))⟩
  · go_enter Try.func35, Try.ntmps35
    go_wp2
    go_ret
    exact ⟨rfl, by (repeat (first | (with_reducible refine Fl.sinDrew ?_) | (with_reducible refine World.Since.drew ?_) | (with_reducible refine Fl.sinSet ?_ ?_; rotate_left) | (with_reducible refine Fl.sinAlloc ?_ ?_; rotate_left) | with_reducible exact World.Since.refl _ _ | with_reducible assumption | (with_reducible refine Fl.sinStep (by with_reducible assumption) ?_))); all_goals (first | omega | (simp; done) | (simp; omega) | (simp [go_sem]; done) | (simp [go_sem]; omega))⟩
set_option maxHeartbeats 2000000 in
set_option maxRecDepth 100000 in
theorem allTaps_any (A : Option Addr) (n c : Nat) (x : Nat → TapR) (r : Bool) (w : World) (B : Nat) (h : Rs TapR.cells 2 w B A n x) (hB : B ≤ w.heap.size) (hn : n ≤ 1048576) (hr : r = true ↔ tapsOk x n) :
    Calls Try.prog 34 #[.slice A n c, .func (.func 35) #[] #[]] w fun e w' => e = .returned (.bool r) ∧ w.Since w.heap.size w' := by
  have HA := Lib.hid h; have HR := Lib.hid hr
  clear h hr
  go_enter Try.func34, Try.ntmps34
  go_wp2
  go_loopw [9] (fun i wr => ∃ k : Nat, k ≤ n ∧ i = .int .i64 k ∧ tapsOk x k ∧ w.Since w.heap.size wr) (fun i _ => n - (intOf i).toNat)
  case atStart => exact ⟨0, Nat.zero_le _, rfl, (fun j hj => by omega), World.Since.refl _ _⟩
  case round =>
    obtain ⟨k, hk, rfl, hz, hs⟩ := hrel
    have HZ := Lib.hid hz; have HS := Lib.hid hs
    clear hz hs
    by_cases hlt : k < n
    · obtain ⟨g, off, rfl, hg, hc⟩ := HA.out.at_ hlt
      have hc0 := (HS.out.cell (a := ⟨g, off + k * 2 + 0, none⟩) (by show g < _; omega)).trans (hc 0 (by decide))
      have hc1 := (HS.out.cell (a := ⟨g, off + k * 2 + 1, none⟩) (by show g < _; omega)).trans (hc 1 (by decide))
      simp only [TapR.cells, List.getD_cons_zero, List.getD_cons_succ, Nat.add_zero] at hc0 hc1
      clear hc
      cases ho : decide (0 ≤ (x k).b) && decide ((x k).b ≤ 64)
      · have h6 : r = false := by
          cases h6 : r
          · rfl
          · have h7 := HR.out.1 h6 k hlt
            rw [decide_eq_true h7.1, decide_eq_true h7.2] at ho; cases ho
        subst h6
        go_wp2_with fail
        refine (tapClos_b _ _ false _ ho).mono ?_; rintro e w2 ⟨rfl, hs2⟩
        have HS2 := Lib.hid (since_step (HS.out.alloc HS.out.size _) hs2); clear hs2
        go_wp2
        go_ret
        exact ⟨rfl, HS2.out⟩
      · have HO := Lib.hid ho
        go_wp2_with fail
        refine (tapClos_b _ _ true _ ho).mono ?_; rintro e w2 ⟨rfl, hs2⟩
        have HS2 := Lib.hid (since_step (HS.out.alloc HS.out.size _) hs2); clear hs2
        go_wp2
        go_roundw
        case rel =>
          refine ⟨k + 1, by omega, by go_num, fun j hj => ?_, HS2.out⟩
          by_cases e : j = k
          · subst e
            have h8 := HO.out
            rw [Bool.and_eq_true] at h8
            exact ⟨of_decide_eq_true h8.1, of_decide_eq_true h8.2⟩
          · exact HZ.out j (by omega)
        case measure => simp [intOf]; omega
    · obtain rfl : k = n := by omega
      have h5 := HR.out.2 HZ.out
      subst h5
      clear HR
      go_wp2
      go_ret
      exact ⟨rfl, HS.out⟩
theorem implValidTaps_b (A : Option Addr) (n c : Nat) (x : Nat → TapR) (r : Bool) (w : World) (h : Rs TapR.cells 2 w w.heap.size A n x) (hn : n ≤ 1048576) (hr : r = true ↔ tapsOk x n ∧ n ≤ 8) :
    Calls Try.prog 10 #[.slice A n c] w (PB r w) := by
  unfold PB
  have HA := Lib.hid h; have HR := Lib.hid hr
  clear h hr
  cases h3 : decide ((n : Int) ≤ 8)
  · have h5 : r = false := by
      cases h6 : r
      · rfl
      · exact absurd (HR.out.1 h6).2 (by have := of_decide_eq_false h3; omega)
    subst h5
    clear HR
    go_enter Try.func10, Try.ntmps10
    go_wp2
    go_ret
    exact ⟨rfl, by (repeat (first | (with_reducible refine Fl.sinDrew ?_) | (with_reducible refine World.Since.drew ?_) | (with_reducible refine Fl.sinSet ?_ ?_; rotate_left) | (with_reducible refine Fl.sinAlloc ?_ ?_; rotate_left) | with_reducible exact World.Since.refl _ _ | with_reducible assumption | (with_reducible refine Fl.sinStep (by with_reducible assumption) ?_))); all_goals (first | omega | (simp; done) | (simp; omega) | (simp [go_sem]; done) | (simp [go_sem]; omega))⟩
  · have h5 : Hid (r = true ↔ tapsOk x n) := Lib.hid (HR.out.trans ⟨fun h => h.1, fun h => ⟨h, by have := of_decide_eq_true h3; omega⟩⟩)
    clear HR
    go_enter Try.func10, Try.ntmps10
    go_wp2_with (go_at_call 34; refine (allTaps_any A n c x r _ _ HA.out (Nat.le_refl _) hn h5.out).mono ?_; rintro e w2 ⟨rfl, hs⟩)
    go_ret
    exact ⟨rfl, hs⟩
end Go.Proofs.Ytflpackchlpedaa

/- Folds: rows of floats that whole lists are appended to; the model's fold. -/
set_option linter.unusedVariables false
set_option linter.unusedSimpArgs false
namespace Go.Proofs.Ytflpackchlpedaa
open Fl Go.RowKit
theorem fvl_app (xs ys : List Nat) : fvl xs ++ fvl ys = fvl (xs ++ ys) := by unfold fvl; simp
theorem wd_app (xs ys : List Nat) (j : Nat) : wd (xs ++ ys) j = if j < xs.length then wd xs j else wd ys (j - xs.length) := by
  unfold wd
  split
  · next h => simp [List.getD_eq_getElem?_getD, List.getElem?_append_left h]
  · next h => simp [List.getD_eq_getElem?_getD, List.getElem?_append_right (Nat.le_of_not_lt h)]
set_option maxRecDepth 100000 in
theorem wpList_appN {ops : Array Oper} {rest : List Oper} {o : Oper} {a : Act} {Q : Exit → Act → World → Prop} {w : World} (hgd : o.guard = none) (s x : Operand)
    (ho : o.op = .call { callee := .builtin .append, args := #[s, x], argTypes := #[27, 27] }) (lo : Nat) (v : Value) (k : Nat) (F : Nat → O) (hs : a.eval s = v) (A : Option Addr) (m c : Nat) (xs : List Nat) (B : Nat)
    (hx : a.eval x = .slice A m c) (hnone : A = none → m = 0 ∧ c = 0) (hA : Hid (Fs w B A m xs)) (hF : ∀ j, j < m → F (k + j) = ab .f32 (wd xs j)) (hk : k + m ≤ 1048576) (hlo : lo ≤ w.heap.size) (hR : Rw lo w v k F)
    (h : ∀ v' w', Hid (Rw lo w' v' (k + m) F) → Hid (w.Since lo w') → wpList Try.prog ops Q rest (a.put o.dst v') w') : wpList Try.prog ops Q (o :: rest) a w := by
  obtain ⟨os, h1, h2, h3⟩ := hR
  obtain ⟨i0, hi, hz0, hz1, hz2⟩ := info_parts Try.infoF
  have HA := hA.out
  cases A with
  | none =>
    obtain ⟨rfl, rfl⟩ := hnone rfl
    exact wpList_append_own_none (P := Try.prog) hgd s x 27 ho lo 33 i0 1 Try.underlying27 hi v k (fvl os) (by rw [hs]) h1 hx (h v w (Lib.hid ⟨os, h1, h2, h3⟩) (Lib.hid (World.Since.refl _ _)))
  | some ad =>
  refine wpList_append_own (P := Try.prog) w hgd s x 27 ho lo 33 i0 (.float .f32 0) 1 4 Try.underlying27 hi hz0 hz1 hz2 rfl (by omega) v k (fvl os) hs h1 ad m c (fvl xs) hx ?_ ?_ ?_ ?_ ?_ hlo ?_
  · rw [fvl, List.length_map, HA.1, Nat.mul_one]
  · intro j u hj
    have hlt : j < m := by
      have := (List.getElem?_eq_some_iff.1 hj).1
      rw [fvl, List.length_map, HA.1] at this; exact this
    obtain ⟨g, off, e, _, hc⟩ := HA.2.2 (by omega)
    injection e with e
    subst e
    have := hc j hlt
    rw [show (Addr.mk g off none).add j = ⟨g, off + j, none⟩ by simp [Addr.add], this]
    rw [← hj]
    unfold fvl fv wd
    simp [List.getD_eq_getElem?_getD, List.getElem?_eq_getElem (show j < xs.length by rw [HA.1]; exact hlt)]
  · intro u hu
    obtain ⟨x, _, rfl⟩ := List.mem_map.1 hu
    rfl
  · unfold maxLen; omega
  · omega
  · intro v' w' hown hg _
    have hyl : os.length = k := by simpa [fvl] using h1.1
    refine h v' w' (Lib.hid ⟨os ++ xs, ?_, fun x hx => ?_, fun j hj => ?_⟩) (Lib.hid ⟨hg.os, hg.tape, hg.output, hg.size, fun i hi => ?_⟩)
    · rw [← fvl_app]; exact hown
    · rcases List.mem_append.1 hx with h4 | h4
      · exact h2 x h4
      · exact HA.2.1 x h4
    · rw [wd_app, hyl]
      by_cases e : j < k
      · rw [if_pos e]; exact h3 j e
      · rw [if_neg e, ← hF (j - k) (by omega)]; congr 1; omega
    · refine hg.block i (by omega) fun e => ?_
      have := own_lo h1 i e.symm
      omega
theorem Rw.end_ {lo : Nat} {w : World} {v : Value} {k : Nat} {F : Nat → O} (h : Rw lo w v k F) : ∃ (A : Option Addr) (c : Nat) (xs : List Nat), v = .slice A k c ∧ k ≤ c ∧ (A = none → k = 0 ∧ c = 0) ∧ (∀ a, A = some a → ∃ g, a = ⟨g, 0, none⟩ ∧ lo ≤ g) ∧ Gs 33 w lo A k xs ∧ Are ⟨A, k, xs⟩ F := by
  obtain ⟨os, h1, hs, hf⟩ := h
  rcases h1.2 with ⟨rfl, rfl⟩ | ⟨g, cap, cur, rfl, hg, _, hk, _⟩
  · exact ⟨none, 0, os, rfl, Nat.le_refl _, fun _ => ⟨rfl, rfl⟩, (fun a h => by cases h), Gs.of_own h1 hs, hf⟩
  · exact ⟨some ⟨g, 0, none⟩, cap, os, rfl, hk, (fun h => by cases h), fun a h => by cases h; exact ⟨g, rfl, hg⟩, Gs.of_own h1 hs, hf⟩
theorem Fs.nil_ {w : World} {A : Option Addr} : Fs w 0 A 0 [] := ⟨rfl, (fun x hx => by cases hx), (fun h => by omega)⟩
/-- the last ones of a list -/
theorem Fs.tail {w : World} {B n m : Nat} {g off : Nat} {xs : List Nat} (h : Fs w B (some ⟨g, off, none⟩) (n + m) xs) : Fs w B (some ⟨g, off + n, none⟩) m (xs.drop n) :=
  ⟨by rw [List.length_drop, h.1]; omega, fun x hx => h.2.1 x (List.mem_of_mem_drop hx), fun hm => by
    obtain ⟨g', off', e, hg, hc⟩ := h.2.2 (by omega)
    injection e with e
    injection e with e1 e2 _
    subst e1; subst e2
    refine ⟨g, off + n, rfl, hg, fun k hk => ?_⟩
    have := hc (n + k) (by omega)
    rw [← Nat.add_assoc] at this
    rw [this]
    unfold fv wd
    simp [List.getD_eq_getElem?_getD]⟩
theorem wd_drop (xs : List Nat) (n k : Nat) : wd (xs.drop n) k = wd xs (n + k) := by unfold wd; simp [List.getD_eq_getElem?_getD]
def apO (xs ys : List Nat) (n j : Nat) : O := if j < n then ab .f32 (wd xs j) else ab .f32 (wd ys (j - n))
def fsum (T Z : Nat → O) (p : Nat) : Nat → O
  | 0 => some 0
  | k + 1 => opO .add .f32 (fsum T Z p k) (opO .mul .f32 (T k) (Z (p - k)))
def foldF (T Z : Nat → O) (l t i : Nat) : O := fsum T Z (l + i) t
def offO (Z : Nat → O) (n j : Nat) : O := Z (n + j)
def PEE (n0 : Nat) (f0 : Nat → O) (n1 : Nat) (f1 : Nat → O) (w : World) (e : Ending) (w' : World) : Prop :=
  ∃ (p q : Ls) (c d : Nat), e = .returned (.tuple #[.slice p.A p.n c, .slice q.A q.n d]) ∧ Hid (p.n = n0) ∧ Hid (q.n = n1) ∧ Hid (Ge w.heap.size w' (fe p.A p.n p.xs)) ∧ Hid (Ge w.heap.size w' (fe q.A q.n q.xs)) ∧ Hid (Are p f0) ∧ Hid (Are q f1) ∧ Hid (De (fe p.A p.n p.xs) (fe q.A q.n q.xs)) ∧ Hid (w.Since w.heap.size w')
end Go.Proofs.Ytflpackchlpedaa

/- Two rows of floats that grow side by side. -/
set_option linter.unusedVariables false
set_option linter.unusedSimpArgs false
namespace Go.Proofs.Ytflpackchlpedaa
open Fl Go.RowKit
/-- two rows lie in two blocks -/
def Apart (v u : Value) : Prop := ∀ b, v.ownBlock = some b → u.ownBlock = some b → False
theorem Apart.symm {v u : Value} (h : Apart v u) : Apart u v := fun b h1 h2 => h b h2 h1
/-- where a row lies that something was appended to -/
theorem append_where {P : Program} (w : World) (base : Nat) (t ty e : TypeId) (i : TypeInfo) (z : Value) (ht : P.underlying t = some (.slice e)) (hi : P.info? e = some i) (hz : i.zero = some z)
    (v : Value) (n : Nat) (xs : List Value) (hown : w.ownsRow base e i.size v n xs) (hsz : 0 < i.size)
    (a : Addr) (m c : Nat) (news : List Value) (hl : news.length = m * i.size) (hnews : ∀ j u, news[j]? = some u → w.cell? (a.add j) = some u) (h1 : ∀ u ∈ news, u.oneCell' = true) (hm : 0 < m)
    (h63 : n + m ≤ maxLen) (hbytes : (n + m) * i.bytes ≤ 140737488355328) :
    ∃ v' w', (Builtin.append_ #[t, t] ty #[v, .slice (some a) m c]).run P w = .ok v' w' ∧ (v'.ownBlock = v.ownBlock ∨ v'.ownBlock = some w.heap.size) := by
  have hsmall : n + m ≤ 9223372036854775807 := by simp only [maxLen] at h63; omega
  rcases hown.2 with ⟨rfl, rfl⟩ | ⟨g, cap, cur, rfl, hbg, hg, hnc, hcm, hcs, htake⟩
  · have hr := run_append_nil (P := P) w t ty e i z ht hi hz a m c news hl hnews (by omega) (by omega) (by have hb := hbytes; simp only [Nat.zero_add] at hb; omega)
    exact ⟨_, _, hr, .inr rfl⟩
  · by_cases hroom : n + m ≤ cap
    · have hfit : n * i.size + news.length ≤ cur.size := by rw [hl, hcs, ← Nat.add_mul]; exact Nat.mul_le_mul_right _ hroom
      have hr := run_append_room (P := P) w t ty e i ht hi g n cap cur hg a m c news hl hnews h1 hroom hfit
      exact ⟨_, _, hr, .inl rfl⟩
    · have holds : ∀ j u, xs[j]? = some u → w.cell? ((⟨g, 0, none⟩ : Addr).add j) = some u := hown.cells (g := g) rfl
      have hr := run_append_grow (P := P) w t ty e i z ht hi hz ⟨g, 0, none⟩ n cap xs hown.1 holds a m c news hl hnews (by omega) (by omega) (growslice_fits (by omega) hbytes)
      exact ⟨_, _, hr, .inr rfl⟩
theorem Rw.kept {lo : Nat} {w w' : World} {u v : Value} {k : Nat} {G : Nat → O} (h : Rw lo w u k G) (hg : w.grownBy w' v.ownBlock) (ha : Apart v u) : Rw lo w' u k G := by
  obtain ⟨os, h1, h2, h3⟩ := h
  refine ⟨os, h1.kept hg ?_, h2, h3⟩
  cases e : u.ownBlock with
  | none => exact .inl rfl
  | some b => exact .inr fun e2 => ha b e2.symm e
theorem Rw.blk {lo : Nat} {w : World} {u : Value} {k : Nat} {G : Nat → O} (h : Rw lo w u k G) : ∀ b, u.ownBlock = some b → b < w.heap.size := by
  obtain ⟨os, h1, h2, h3⟩ := h
  exact fun b hb => (h1.lt b hb).2
theorem wpList_app2 {ops : Array Oper} {rest : List Oper} {o : Oper} {a : Act} {Q : Exit → Act → World → Prop} {w : World} (hgd : o.guard = none) (s x : Operand)
    (ho : o.op = .call { callee := .builtin .append, args := #[s, x], argTypes := #[27, 27] }) (lo : Nat) (v : Value) (k : Nat) (F : Nat → O) (hs : a.eval s = v) (b r : Nat)
    (hx : a.eval x = .slice (some ⟨b, 0, none⟩) 1 1) (hc : w.cell? ⟨b, 0, none⟩ = some (.float .f32 r)) (hk : k < 1048576) (hlo : lo ≤ w.heap.size) (hr : Hid (Fv .f32 r (F k))) (hR : Rw lo w v k F)
    (h : ∀ v' w', Hid (Rw lo w' v' (k + 1) F) → Hid (w.Since lo w') → Hid (∀ u k' G, Rw lo w u k' G → Apart v u → Rw lo w' u k' G ∧ Apart v' u) → wpList Try.prog ops Q rest (a.put o.dst v') w') : wpList Try.prog ops Q (o :: rest) a w := by
  obtain ⟨os, h1, h2, h3⟩ := hR
  obtain ⟨i0, hi, hz0, hz1, hz2⟩ := info_parts Try.infoF
  have hnews : ∀ (j : Nat) (u : Value), [Value.float .f32 r][j]? = some u → w.cell? ((⟨b, 0, none⟩ : Addr).add j) = some u := by
    intro j u hj
    rcases j with _ | j
    · simp at hj; subst hj; simpa [Addr.add] using hc
    · simp at hj
  have hone : ∀ u ∈ [Value.float .f32 r], u.oneCell' = true := by intro u hu; simp at hu; subst hu; rfl
  have h63 : k + 1 ≤ maxLen := by unfold maxLen; omega
  have hby : (k + 1) * i0.bytes ≤ 140737488355328 := by rw [hz2]; omega
  refine wpList_plain hgd fun K hK => ?_
  obtain ⟨v', w', hrun, hown, hgr, _⟩ := run_append_own (P := Try.prog) w lo 27 o.type 33 i0 (.float .f32 0) i0.size i0.bytes Try.underlying27 hi hz0 rfl rfl (by rw [hz1]; rfl) (by rw [hz1]; omega) v k (fvl os) (by rw [hz1]; exact h1) ⟨b, 0, none⟩ 1 1 [.float .f32 r] (by rw [hz1]; rfl) hnews hone h63 hby hlo
  obtain ⟨v2, w2, hrun2, hwh⟩ := append_where (P := Try.prog) w lo 27 o.type 33 i0 (.float .f32 0) Try.underlying27 hi hz0 v k (fvl os) (by rw [hz1]; exact h1) (by rw [hz1]; omega) ⟨b, 0, none⟩ 1 1 [.float .f32 r] (by rw [hz1]; rfl) hnews hone (by omega) h63 hby
  rw [hrun] at hrun2
  injection hrun2 with e1 e2
  subst e1
  rw [hz1] at hown
  unfold Oper.wp execOp
  simp only [ho, resolve, invoke, builtin, Sem.run_bind, Sem.run_pure, Result.andThen_ok, List.map_toArray, List.map_cons, List.map_nil, hs, hx, hrun]
  refine hK _ _ (h v' w' (Lib.hid ⟨os ++ [r], ?_, h2.snoc hr.out.1, fun j hj => ?_⟩) (Lib.hid ⟨hgr.os, hgr.tape, hgr.output, hgr.size, fun i hi => ?_⟩) (Lib.hid fun u k' G hu hap => ⟨hu.kept hgr hap, fun b h4 h5 => ?_⟩))
  · rw [← fvl_snoc]; exact hown
  · have hyl : os.length = k := by simpa [fvl] using h1.1
    rw [wd_snoc hyl]
    by_cases e : j < k
    · rw [if_pos e]; exact h3 j e
    · obtain rfl : j = k := by omega
      rw [if_neg e, if_pos rfl]; exact hr.out.2
  · refine hgr.block i (by omega) fun e => ?_
    have := own_lo h1 i e.symm
    omega
  · rcases hwh with e | e
    · exact hap b (e ▸ h4) h5
    · have := hu.blk b h5
      rw [e] at h4
      injection h4 with h4
      omega
theorem De.of_apart {p q : Ls} {c d : Nat} (h : Apart (.slice p.A p.n c) (.slice q.A q.n d)) : De (fe p.A p.n p.xs) (fe q.A q.n q.xs) := by
  rintro g ⟨_, o1, e1⟩ ⟨_, o2, e2⟩
  exact h g (by rw [e1]; rfl) (by rw [e2]; rfl)
end Go.Proofs.Ytflpackchlpedaa

/- Taps: of the model. -/
set_option linter.unusedVariables false
set_option linter.unusedSimpArgs false
namespace Go.Proofs.Ytflpackchlpedaa
open Fl Go.RowKit
/-- the numbers of a past of 64, and the samples behind it -/
def tapS (xs ys : List Nat) (j : Nat) : O := if j < 64 then ab .f32 (wd xs j) else ab .f32 (wd ys (j - 64))
def tapSum (x : Nat → TapR) (S : Nat → O) (k : Nat) : Nat → O
  | 0 => some 0
  | t + 1 => ad (tapSum x S k t) (mu (ab .f32 (x t).g) (S (k + 64 - (x t).b.toNat)))
set_option maxHeartbeats 1000000 in
theorem specOwnR_any (b n : Nat) (xs : List Nat) (F : Nat → O) (w : World) (h : Fs w w.heap.size (some ⟨b, 0, none⟩) n xs) (hn : n ≤ 1048576) (hF : ∀ j, j < n → F j = ab .f32 (wd xs j)) :
    Calls Try.prog 54 #[.slice (some ⟨b, 0, none⟩) n n] w fun e w' => ∃ v, e = .returned v ∧ Rw w.heap.size w' v n F ∧ w.Since w.heap.size w' := by
  have H := Lib.hid h; have HF := Lib.hid hF
  clear h hF
  have HR := Lib.hid (Rw.start w w.heap.size (Nat.le_refl _) F)
  have HS : Hid (w.Since w.heap.size (w.alloc (.cells #[] 33))) := Lib.hid ((World.Since.refl _ _).alloc (Nat.le_refl _) _)
  go_enter Try.func54, Try.ntmps54
  go_wp2_with (first | (at_builtin; go_loud (refine wpList_appN rfl (.tmp 3) (.tmp 4) rfl w.heap.size _ 0 F rfl (some ⟨b, 0, none⟩) n n xs w.heap.size rfl (fun h => by cases h) (Lib.hid (H.out.since HS.out)) (fun j hj => by rw [Nat.zero_add]; exact HF.out j hj) (by omega) (by simp) HR.out ?_); intro v' w3 hR3 hS3))
  go_ret
  exact ⟨_, rfl, by have := hR3.out; rwa [Nat.zero_add] at this, HS.out.trans hS3.out⟩
theorem Fs.drop {w : World} {B m n g o : Nat} {zs : List Nat} (h : Fs w B (some ⟨g, o, none⟩) (n + m) zs) (hn : 0 < n) : Fs w B (some ⟨g, o + m, none⟩) n (zs.drop m) :=
  ⟨by rw [List.length_drop, h.1]; omega, fun y hy => h.2.1 y (List.mem_of_mem_drop hy), fun _ => by
    obtain ⟨g', o', e, hg, hc⟩ := h.2.2 (by omega)
    injection e with e; injection e with e1 e2 _; subst e1; subst e2
    exact ⟨g, o + m, rfl, hg, fun j hj => by have e : fv (zs.drop m) j = fv zs (m + j) := (by unfold fv; rw [wd_drop]); rw [e, Nat.add_assoc]; exact hc (m + j) (by omega)⟩⟩
theorem Rw.under {lo : Nat} {w : World} {v : Value} {k : Nat} {F : Nat → O} (h : Rw lo w v k F) : ∀ b, v.ownBlock = some b → b < w.heap.size := by
  intro b hb
  obtain ⟨os, h1, _, _⟩ := h
  rcases h1.2 with h2 | ⟨g, cap, cur, e1, h3, h4, r⟩
  · rw [h2.1] at hb; cases hb
  · rw [e1] at hb
    simp only [Value.ownBlock, Option.some.injEq] at hb
    subst hb
    exact (Array.getElem?_eq_some_iff.1 h4).1
end Go.Proofs.Ytflpackchlpedaa

/- Taps: of the program. -/
set_option linter.unusedVariables false
set_option linter.unusedSimpArgs false
namespace Go.Proofs.Ytflpackchlpedaa
open Fl Go.RowKit
set_option maxHeartbeats 4000000 in
set_option maxRecDepth 100000 in
theorem before_any (g o d : Nat) (f : Nat → Nat) (w : World) (h : RingAt w g 64 o f) (ho : o < 64) (hd0 : 0 < d) (hd : d ≤ 64) :
    Calls Try.prog 40 #[.pointer (some ⟨g, 0, none⟩), .int .i64 (d : Nat)] w fun e w' => e = .returned (.float .f32 (f ((o + 64 - d) % 64))) ∧ ∃ m, w' = w.drewN m := by
  obtain ⟨j, hj⟩ : ∃ j, j = (o + 64 - d) % 64 := ⟨_, rfl⟩
  have hj64 : j < 64 := by omega
  rw [← hj]
  have h1 := h.num hj64
  have h2 := h.old
  have h3 := h.len
  have hI : ((o : Int) + 64 - (d : Int)) % 64 = (j : Int) := by omega
  have b0 : (0 : Int) ≤ (o : Int) + 64 - (d : Int) := by omega
  have b1 : (0 : Int) ≤ j := by omega
  have b2 : (j : Int) < 64 := by omega
  clear h hj
  go_enter Try.func40, Try.ntmps40
  go_wp2
  go_quiet (fail)
  go_wp2
  go_ret
  exact ⟨rfl, _, rfl⟩
set_option maxHeartbeats 4000000 in
set_option maxRecDepth 100000 in
theorem sumOfTaps_any (b0 n : Nat) (x : Nat → TapR) (g k q : Nat) (f : Nat → Nat) (S : Nat → O) (w : World) (h0 : Rs TapR.cells 2 w w.heap.size (some ⟨b0, 0, none⟩) n x) (hx : ∀ k, k < n → (x k).ok) (ht : tapsOk x n) (hn : n ≤ 8)
    (h : RingAt w g 64 (k % 64) f) (hf : ∀ j, j < 64 → ab .f32 (f j) = S (Ln.ix 64 k j)) (hq : Hid (Fv .f32 q (S (k + 64)))) :
    Calls Try.prog 31 #[.slice (some ⟨b0, 0, none⟩) n n, .pointer (some ⟨g, 0, none⟩), .float .f32 q] w fun e w' => ∃ r, e = .returned (.float .f32 r) ∧ Hid (Fv .f32 r (tapSum x S k n)) ∧ w.Since w.heap.size w' := by
  have H0 := Lib.hid h0; have HX := Lib.hid hx; have HT := Lib.hid ht; have HF := Lib.hid hf; have HG := Lib.hid h
  have hgl : g < w.heap.size := h.lt
  clear h0 hx ht hf h
  go_enter Try.func31, Try.ntmps31
  go_wp2
  go_loopw [7, 13] (fun s i wr => ∃ (t r : Nat), t ≤ n ∧ i = .int .i64 (t : Nat) ∧ s = .float .f32 r ∧ Hid (Fv .f32 r (tapSum x S k t)) ∧ w.Since w.heap.size wr) (fun _ i _ => n - (intOf i).toNat)
  case atStart => exact ⟨0, 0, Nat.zero_le _, rfl, rfl, fv0, World.Since.refl _ _⟩
  case round =>
    obtain ⟨t, r, htn, rfl, rfl, hr, hs⟩ := hrel
    have HS := Lib.hid hs
    have hz := hs.size
    clear hs
    by_cases hlt : t < n
    · obtain ⟨g', off, e1, hg, hc⟩ := H0.out.at_ hlt
      injection e1 with e1; injection e1 with e1 e2 _; subst e1; subst e2
      have c0 := (HS.out.cell (a := ⟨b0, 0 + t * 2 + 0, none⟩) hg).trans (hc 0 (by decide))
      have c1 := (HS.out.cell (a := ⟨b0, 0 + t * 2 + 1, none⟩) hg).trans (hc 1 (by decide))
      simp only [TapR.cells, List.getD_cons_zero, List.getD_cons_succ, Nat.add_zero, Nat.zero_add] at c0 c1
      obtain ⟨d, hd, hd64⟩ : ∃ d : Nat, (x t).b = (d : Int) ∧ d ≤ 64 := ⟨(x t).b.toNat, by have := (HT.out t hlt); omega, by have := (HT.out t hlt); omega⟩
      have hgn : Hid (Fv .f32 (x t).g (ab .f32 (x t).g)) := Lib.hid ⟨HX.out t hlt, rfl⟩
      have HSUM : Hid (tapSum x S k (t + 1) = ad (tapSum x S k t) (mu (ab .f32 (x t).g) (S (k + 64 - d)))) := Lib.hid (by
        show ad _ (mu _ (S (k + 64 - (x t).b.toNat))) = _
        rw [hd]; rfl)
      rw [hd] at c0
      clear hc hd
      have HR1 := Lib.hid (HG.out.since HS.out hgl)
      by_cases hd0 : d = 0
      · subst hd0
        go_wp2_with (with_reducible_and_instances refine Lo.wpList_fo _ rfl _ _ _ _ _ rfl _ _ _ _ _ rfl rfl rfl (by assumption) (by assumption) ?_; intro rr nn hrr)
        go_roundw
        case rel => exact ⟨t + 1, rr, by omega, by go_num, rfl, by rw [HSUM.out]; exact hrr, since_drewN (HS.out.alloc hz _) _⟩
        case measure => simp [intOf]; omega
      · have hdi : decide ((0 : Int) < (d : Int)) = true := decide_eq_true (by omega)
        have hold : Hid (Fv .f32 (f ((k % 64 + 64 - d) % 64)) (S (k + 64 - d))) := Lib.hid ⟨HG.out.small _ (Nat.mod_lt _ (by decide)), by
          rw [HF.out _ (Nat.mod_lt _ (by decide)), show k % 64 + 64 - d = k % 64 + (64 - d) by omega, Ln.ix_at (by omega)]
          congr 1; omega⟩
        go_wp2_with (first | (with_reducible_and_instances refine Lo.wpList_fo _ rfl _ _ _ _ _ rfl _ _ _ _ _ rfl rfl rfl (by assumption) (by assumption) ?_; intro rr nn hrr) | (go_at_call 40; go_loud (refine (before_any g (k % 64) d f _ (HR1.out.since ((World.Since.refl _ _).alloc (Nat.le_refl _) _) (by omega)) (by omega) (by omega) hd64).mono ?_); rintro e w2 ⟨rfl, m2, rfl⟩))
        go_roundw
        case rel => exact ⟨t + 1, rr, by omega, by go_num, rfl, by rw [HSUM.out]; exact hrr, since_drewN (HS.out.alloc hz _) _⟩
        case measure => simp [intOf]; omega
    · obtain rfl : t = n := by omega
      go_wp2
      go_ret
      exact ⟨r, rfl, hr, HS.out⟩
/-- what stands when k samples have gone through a past -/
def TapI (b0 n : Nat) (x : Nat → TapR) (S : Nat → O) (g bt br B k : Nat) (W : World) : Prop :=
  ∃ f, RingAt W g 64 (k % 64) f ∧ (∀ j, j < 64 → ab .f32 (f j) = S (Ln.ix 64 k j)) ∧ W.cell? ⟨bt, 0, none⟩ = some (.slice (some ⟨b0, 0, none⟩) n n) ∧ W.cell? ⟨br, 0, none⟩ = some (.pointer (some ⟨g, 0, none⟩)) ∧ Rs TapR.cells 2 W B (some ⟨b0, 0, none⟩) n x
theorem On.of_since {g : Nat} {w w' : World} (h : w.Since w.heap.size w') (hg : g < w.heap.size) : On g w w' := ⟨since_mono h (by omega), fun i hi _ => h.block i hi⟩
set_option maxHeartbeats 4000000 in
set_option maxRecDepth 100000 in
theorem closTaps_any (b0 n : Nat) (x : Nat → TapR) (S : Nat → O) (g bt br B k q : Nat) (w : World) (hx : ∀ k, k < n → (x k).ok) (ht : tapsOk x n) (hn : n ≤ 8) (h : TapI b0 n x S g bt br B k w) (hq : q < 4294967296) (hS : S (k + 64) = ab .f32 q)
    (h1 : bt ≠ g) (h2 : br ≠ g) (l1 : bt < w.heap.size) (l2 : br < w.heap.size) (hB : B ≤ g) :
    Calls Try.prog 30 #[.float .f32 q, .pointer (some ⟨bt, 0, none⟩), .pointer (some ⟨br, 0, none⟩)] w fun e w' => ∃ r, e = .returned (.float .f32 r) ∧ Hid (Fv .f32 r (tapSum x S k n)) ∧ TapI b0 n x S g bt br B (k + 1) w' ∧ On g w w' := by
  obtain ⟨f, hr, hf, hc1, hc2, hrs⟩ := h
  have hgl := hr.lt
  have HR := Lib.hid hr; have HF := Lib.hid hf; have HX := Lib.hid hx; have HT := Lib.hid ht; have HRS := Lib.hid hrs; have HC1 := Lib.hid hc1; have HC2 := Lib.hid hc2; have HS := Lib.hid hS
  have HQ : Hid (Fv .f32 q (S (k + 64))) := Lib.hid ⟨hq, hS.symm⟩
  clear hr hf hx ht hrs hS
  go_enter Try.func30, Try.ntmps30
  go_wp2_with fail
  go_at_call 31
  refine (sumOfTaps_any b0 n x g k q f S _ (HRS.out.more (by omega)) HX.out HT.out hn HR.out HF.out HQ).mono ?_
  rintro e w1 ⟨r, rfl, hr, hs⟩
  have HRV := Lib.hid hr; have S1 := Lib.hid hs
  have R1 := Lib.hid (HR.out.since hs hgl)
  have hc2' := (hs.cell (a := ⟨br, 0, none⟩) l2).trans HC2.out
  clear hr hs hc1 hc2
  go_wp2_with fail
  go_at_call 32
  refine (take_any g 64 (k % 64) q f _ R1.out (Nat.mod_lt _ (by decide)) (Nat.le_refl _) hq).mono ?_
  rintro e w2 ⟨rfl, hr2, ho⟩
  have R2 := Lib.hid hr2; have O2 := Lib.hid ho
  clear hr2 ho hc2'
  go_wp2
  go_ret
  have oo : On g w w2 := (On.of_since S1.out hgl).trans O2.out
  refine ⟨r, rfl, HRV.out, ⟨_, by rw [← Ln.mod_step (by decide)]; exact R2.out, fun j hj => ?_, ?_, ?_, HRS.out.keep fun g' o hg' => ?_⟩, oo⟩
  · rw [Ln.ix_step hj]
    by_cases e : j = k % 64
    · rw [if_pos e, if_pos e, HS.out]
    · rw [if_neg e, if_neg e]; exact HF.out j hj
  · exact (cell_of_block (oo.2 _ l1 h1) 0).trans HC1.out
  · exact (cell_of_block (oo.2 _ l2 h2) 0).trans HC2.out
  · exact cell_of_block (oo.2 g' (by omega) (by omega)) o
end Go.Proofs.Ytflpackchlpedaa

/- RunTaps of the program. -/
set_option linter.unusedVariables false
set_option linter.unusedSimpArgs false
namespace Go.Proofs.Ytflpackchlpedaa
open Fl Go.RowKit
theorem tapS_old {xs ys : List Nat} {j : Nat} (h : j < 64) : tapS xs ys j = ab .f32 (wd xs j) := by unfold tapS; rw [if_pos h]
theorem tapS_new (xs ys : List Nat) (k : Nat) : tapS xs ys (k + 64) = ab .f32 (wd ys k) := by unfold tapS; rw [if_neg (by omega)]; congr 2
set_option maxHeartbeats 8000000 in
set_option maxRecDepth 100000 in
theorem implRunTaps_ok (b0 n : Nat) (x : Nat → TapR) (b1 : Nat) (xs : List Nat) (b2 m : Nat) (ys : List Nat) (w : World) (h0 : Rs TapR.cells 2 w w.heap.size (some ⟨b0, 0, none⟩) n x) (hx : ∀ k, k < n → (x k).ok) (ht : tapsOk x n ∧ n ≤ 8) (h1 : Fs w w.heap.size (some ⟨b1, 0, none⟩) 64 xs) (h2 : Fs w w.heap.size (some ⟨b2, 0, none⟩) m ys) (hm : m ≤ 256) :
    Calls Try.prog 9 #[.slice (some ⟨b0, 0, none⟩) n n, .slice (some ⟨b1, 0, none⟩) 64 64, .slice (some ⟨b2, 0, none⟩) m m] w (PEEB m (fun k => tapSum x (tapS xs ys) k n) 64 (fun i => tapS xs ys (m + i)) true w) := by
  have hfew : decide ((m : Int) ≤ 256) = true := decide_eq_true (by omega)
  have H0 := Lib.hid h0; have HX := Lib.hid hx; have HT := Lib.hid ht; have H1 := Lib.hid h1; have H2 := Lib.hid h2
  have hn8 : n ≤ 8 := ht.2
  clear h0 hx ht h1 h2
  go_enter Try.func9, Try.ntmps9
  go_wp2_with fail
  generalize hW1 : World.alloc w _ = W1
  have z1 : Hid (W1.heap.size = w.heap.size + 1) := Lib.hid (by rw [← hW1]; simp)
  have S1 : Hid (w.Since w.heap.size W1) := Lib.hid (by rw [← hW1]; exact (World.Since.refl _ _).alloc (Nat.le_refl _) _)
  have C1 : Hid (W1.cell? ⟨w.heap.size, 0, none⟩ = some (.slice (some ⟨b0, 0, none⟩) n n)) := Lib.hid (by rw [← hW1]; simp [go_sem])
  clear hW1
  go_at_call 10
  refine (implValidTaps_b (some ⟨b0, 0, none⟩) n n x true W1 (H0.out.now S1.out) (by omega) (by simp [HT.out])).mono ?_
  rintro e w2 ⟨rfl, hs2⟩
  have S2 := Lib.hid hs2
  have z2 : Hid (w.heap.size + 1 ≤ w2.heap.size) := Lib.hid (by have := hs2.size; have := z1.out; omega)
  have C2 : Hid (w2.cell? ⟨w.heap.size, 0, none⟩ = some (.slice (some ⟨b0, 0, none⟩) n n)) := Lib.hid ((hs2.cell (a := ⟨w.heap.size, 0, none⟩) (by show w.heap.size < W1.heap.size; have := z1.out; omega)).trans C1.out)
  have SW2 : Hid (w.Since w.heap.size w2) := Lib.hid (since_step S1.out hs2)
  clear hs2
  go_wp2_with (first | (go_at_call 27; refine (implSamples_b _ _ _ _ _ hfew).mono ?_; rintro e w' ⟨rfl, rfl⟩) | fail)
  go_at_call 28
  refine (ringOf_any (some ⟨b1, 0, none⟩) 64 64 xs w2 (H1.out.now SW2.out) (by decide) (by decide)).mono ?_
  rintro e w3 ⟨rfl, hr3, hs3⟩
  have R3 := Lib.hid hr3; have S3 := Lib.hid hs3
  have z3 : Hid (w2.heap.size < w3.heap.size) := Lib.hid hr3.lt
  clear hr3 hs3
  go_wp2_with fail
  generalize hw4 : World.alloc w3 _ = w4
  have S4 : Hid (w3.Since w3.heap.size w4) := Lib.hid (by rw [← hw4]; exact (World.Since.refl _ _).alloc (Nat.le_refl _) _)
  have C4 : Hid (w4.cell? ⟨w3.heap.size, 0, none⟩ = some (.pointer (some ⟨w2.heap.size, 0, none⟩))) := Lib.hid (by rw [← hw4]; simp [go_sem])
  have z4 : Hid (w4.heap.size = w3.heap.size + 1) := Lib.hid (by rw [← hw4]; simp)
  clear hw4
  have R4 : Hid (RingAt w4 w2.heap.size 64 0 (fun j => wd xs j)) := Lib.hid (R3.out.since S4.out z3.out)
  have C5 : Hid (w4.cell? ⟨w.heap.size, 0, none⟩ = some (.slice (some ⟨b0, 0, none⟩) n n)) := Lib.hid (((S4.out.cell (a := ⟨w.heap.size, 0, none⟩) (by show w.heap.size < w3.heap.size; have := z2.out; have := z3.out; omega)).trans (S3.out.cell (a := ⟨w.heap.size, 0, none⟩) (by show w.heap.size < w2.heap.size; have := z2.out; omega))).trans C2.out)
  have SW : Hid (w.Since w.heap.size w4) := Lib.hid (since_step (since_step SW2.out S3.out) S4.out)
  have B4 : Hid (Fs w4 w2.heap.size (some ⟨b2, 0, none⟩) m ys) := Lib.hid ((H2.out.since SW.out).more (by have := z2.out; omega))
  have y1 := z2.out; have y2 := z3.out; have y3 := z4.out
  refine (results_any (some ⟨b2, 0, none⟩) m m ys 30 #[.pointer (some ⟨w.heap.size, 0, none⟩), .pointer (some ⟨w3.heap.size, 0, none⟩)] w2.heap.size (TapI b0 n x (tapS xs ys) w2.heap.size w.heap.size w3.heap.size w.heap.size) (fun k => tapSum x (tapS xs ys) k n) w4 B4.out (by omega) hm (fun _ _ => rfl) ?hI ?hst ?h0).mono ?_
  case hI =>
    rintro k W W' ⟨f, ha, hb, hc, hd, he⟩ hs1 hs2 hbl
    exact ⟨f, ha.of (hbl _ (by omega)), hb, (cell_of_block (hbl _ (by omega)) 0).trans hc, (cell_of_block (hbl _ (by omega)) 0).trans hd, he.keep fun g' o hg' => cell_of_block (hbl g' (by omega)) o⟩
  case hst =>
    rintro k q W hk rfl hi hs
    exact closTaps_any b0 n x (tapS xs ys) w2.heap.size w.heap.size w3.heap.size w.heap.size k _ W HX.out HT.out.1 hn8 hi (B4.out.2.1.at_ k) (tapS_new xs ys k) (by omega) (by omega) (by omega) (by omega) (by omega)
  case h0 => exact ⟨_, by rw [Nat.zero_mod]; exact R4.out, fun j hj => by rw [Ln.ix_zero hj]; exact (tapS_old hj).symm, C5.out, C4.out, H0.out.since SW.out⟩
  rintro e w5 ⟨os, rfl, hgs, har, ⟨f5, hr5, hf5, hd5, hc5, _⟩, ho5⟩
  have G5 := Lib.hid hgs; have A5 := Lib.hid har; have R5 := Lib.hid hr5; have F5 := Lib.hid hf5; have O5 := Lib.hid ho5
  clear hgs har hr5 hf5 hd5 ho5
  have z5 : Hid (w4.heap.size ≤ w5.heap.size) := Lib.hid O5.out.1.size
  clear y1 y2 y3
  go_wp2_with (go_at_call 33; refine (line_any _ 64 _ f5 w5 R5.out (Nat.mod_lt _ (by decide)) (by decide)).mono ?_; rintro e w6 ⟨ls, rfl, hg6, hl6, hs6⟩; have G6 := Lib.hid hg6; have L6 := Lib.hid hl6; have S6 := Lib.hid hs6; clear hg6 hl6 hs6)
  go_ret3
  have y1 := z2.out; have y2 := z3.out; have y3 := z4.out; have y4 := z5.out
  have SZ : w.Since w.heap.size w6 := since_step (SW.out.trans (O5.out.since (by omega))) S6.out
  refine ⟨⟨some ⟨w4.heap.size, 0, none⟩, m, os⟩, ⟨some ⟨w5.heap.size, 0, none⟩, 64, ls⟩, m, 64, rfl, rfl, rfl, ((G5.out.since S6.out).less (by omega)).toE, (G6.out.less (by omega)).toE, A5.out, fun i hi => ?_, ?_, SZ⟩
  · have hi' : i < 64 := hi
    show ab .f32 (wd ls i) = _
    rw [L6.out i hi', F5.out _ (Nat.mod_lt _ (by decide)), Ln.ix_at hi']
  · rintro g ⟨hp, o1, e1⟩ ⟨_, o2, e2⟩
    have hp' : 0 < m := by simpa using hp
    obtain ⟨b, e3, h3, h4⟩ := G5.out.block hp'
    injection e3 with e3; injection e3 with e3 _ _
    injection e1 with e1; injection e1 with e1 _ _
    injection e2 with e2; injection e2 with e2 _ _
    omega
theorem implRunTaps_no (b0 n : Nat) (x : Nat → TapR) (b1 l : Nat) (b2 m : Nat) (w : World) (h0 : Rs TapR.cells 2 w w.heap.size (some ⟨b0, 0, none⟩) n x) (hn : n ≤ 1048576) (h : ¬ ((tapsOk x n ∧ n ≤ 8) ∧ l = 64 ∧ m ≤ 256)) (f0 f1 : Nat → O) :
    Calls Try.prog 9 #[.slice (some ⟨b0, 0, none⟩) n n, .slice (some ⟨b1, 0, none⟩) l l, .slice (some ⟨b2, 0, none⟩) m m] w (PEEB 0 f0 0 f1 false w) := by
  have H0 := Lib.hid h0
  have HV : Hid (∀ r, (r = true ↔ tapsOk x n ∧ n ≤ 8) → ∀ W1 : World, w.Since w.heap.size W1 → Calls Try.prog 10 #[.slice (some ⟨b0, 0, none⟩) n n] W1 (PB r W1)) := Lib.hid (fun r hr W1 s => implValidTaps_b _ n n x r W1 (H0.out.now s) hn hr)
  clear h0
  by_cases h1 : tapsOk x n ∧ n ≤ 8
  · have HT := Lib.hid h1
    by_cases h2 : l = 64
    · have hfew : decide ((m : Int) ≤ 256) = false := decide_eq_false (by have h4 : ¬ m ≤ 256 := fun h3 => h ⟨h1, h2, h3⟩; omega)
      subst h2
      clear h h1
      go_enter Try.func9, Try.ntmps9
      go_wp2_with (first | (go_at_call 10; refine (HV.out true (by simp [HT.out]) _ (by (repeat (first | (with_reducible refine Fl.sinDrew ?_) | (with_reducible refine World.Since.drew ?_) | (with_reducible refine Fl.sinSet ?_ ?_; rotate_left) | (with_reducible refine Fl.sinAlloc ?_ ?_; rotate_left) | with_reducible exact World.Since.refl _ _ | with_reducible assumption | (with_reducible refine Fl.sinStep (by with_reducible assumption) ?_))); all_goals (first | omega | (simp; done) | (simp; omega) | (simp [go_sem]; done) | (simp [go_sem]; omega)))).mono ?_; rintro e w2 ⟨rfl, hs2⟩; have S2 := Lib.hid hs2; clear hs2) | (go_at_call 27; refine (implSamples_b _ _ _ _ _ hfew).mono ?_; rintro e w' ⟨rfl, rfl⟩))
      go_ret3
      exact PEEB.none_ (since_step (by (repeat (first | (with_reducible refine Fl.sinDrew ?_) | (with_reducible refine World.Since.drew ?_) | (with_reducible refine Fl.sinSet ?_ ?_; rotate_left) | (with_reducible refine Fl.sinAlloc ?_ ?_; rotate_left) | with_reducible exact World.Since.refl _ _ | with_reducible assumption | (with_reducible refine Fl.sinStep (by with_reducible assumption) ?_))); all_goals (first | omega | (simp; done) | (simp; omega) | (simp [go_sem]; done) | (simp [go_sem]; omega))) S2.out) _ _
    · have h3 : ¬ (l : Int) = 64 := by omega
      clear h h1
      go_enter Try.func9, Try.ntmps9
      go_wp2_with (first | (go_at_call 10; refine (HV.out true (by simp [HT.out]) _ (by (repeat (first | (with_reducible refine Fl.sinDrew ?_) | (with_reducible refine World.Since.drew ?_) | (with_reducible refine Fl.sinSet ?_ ?_; rotate_left) | (with_reducible refine Fl.sinAlloc ?_ ?_; rotate_left) | with_reducible exact World.Since.refl _ _ | with_reducible assumption | (with_reducible refine Fl.sinStep (by with_reducible assumption) ?_))); all_goals (first | omega | (simp; done) | (simp; omega) | (simp [go_sem]; done) | (simp [go_sem]; omega)))).mono ?_; rintro e w2 ⟨rfl, hs2⟩; have S2 := Lib.hid hs2; clear hs2))
      go_ret3
      exact PEEB.none_ (since_step (by (repeat (first | (with_reducible refine Fl.sinDrew ?_) | (with_reducible refine World.Since.drew ?_) | (with_reducible refine Fl.sinSet ?_ ?_; rotate_left) | (with_reducible refine Fl.sinAlloc ?_ ?_; rotate_left) | with_reducible exact World.Since.refl _ _ | with_reducible assumption | (with_reducible refine Fl.sinStep (by with_reducible assumption) ?_))); all_goals (first | omega | (simp; done) | (simp; omega) | (simp [go_sem]; done) | (simp [go_sem]; omega))) S2.out) _ _
  · have HT := Lib.hid h1
    clear h h1
    go_enter Try.func9, Try.ntmps9
    go_wp2_with (first | (go_at_call 10; refine (HV.out false (by simp [HT.out]) _ (by (repeat (first | (with_reducible refine Fl.sinDrew ?_) | (with_reducible refine World.Since.drew ?_) | (with_reducible refine Fl.sinSet ?_ ?_; rotate_left) | (with_reducible refine Fl.sinAlloc ?_ ?_; rotate_left) | with_reducible exact World.Since.refl _ _ | with_reducible assumption | (with_reducible refine Fl.sinStep (by with_reducible assumption) ?_))); all_goals (first | omega | (simp; done) | (simp; omega) | (simp [go_sem]; done) | (simp [go_sem]; omega)))).mono ?_; rintro e w2 ⟨rfl, hs2⟩; have S2 := Lib.hid hs2; clear hs2))
    go_ret3
    exact PEEB.none_ (since_step (by (repeat (first | (with_reducible refine Fl.sinDrew ?_) | (with_reducible refine World.Since.drew ?_) | (with_reducible refine Fl.sinSet ?_ ?_; rotate_left) | (with_reducible refine Fl.sinAlloc ?_ ?_; rotate_left) | with_reducible exact World.Since.refl _ _ | with_reducible assumption | (with_reducible refine Fl.sinStep (by with_reducible assumption) ?_))); all_goals (first | omega | (simp; done) | (simp; omega) | (simp [go_sem]; done) | (simp [go_sem]; omega))) S2.out) _ _
end Go.Proofs.Ytflpackchlpedaa

/- RunTaps of the program, for lists wherever they lie. -/
set_option linter.unusedVariables false
set_option linter.unusedSimpArgs false
namespace Go.Proofs.Ytflpackchlpedaa
open Fl Go.RowKit
/-- two lists in blocks of their own -/
def PTT (n0 : Nat) (f0 : Nat → O) (n1 : Nat) (f1 : Nat → O) (w : World) (e : Ending) (w' : World) : Prop :=
  ∃ (g1 g2 : Nat) (o1 o2 : List Nat) (c d : Nat), e = .returned (.tuple #[.slice (some ⟨g1, 0, none⟩) n0 c, .slice (some ⟨g2, 0, none⟩) n1 d, .bool true]) ∧ Fs w' w'.heap.size (some ⟨g1, 0, none⟩) n0 o1 ∧ Fs w' w'.heap.size (some ⟨g2, 0, none⟩) n1 o2 ∧ (∀ j, j < n0 → ab .f32 (wd o1 j) = f0 j) ∧ (∀ j, j < n1 → ab .f32 (wd o2 j) = f1 j) ∧ w.Since w.heap.size w'
set_option maxHeartbeats 4000000 in
set_option maxRecDepth 100000 in
theorem sumOfTaps_anyC (b0 n cc : Nat) (x : Nat → TapR) (g k q : Nat) (f : Nat → Nat) (S : Nat → O) (w : World) (h0 : Rs TapR.cells 2 w w.heap.size (some ⟨b0, 0, none⟩) n x) (hx : ∀ k, k < n → (x k).ok) (ht : tapsOk x n) (hn : n ≤ 8)
    (h : RingAt w g 64 (k % 64) f) (hf : ∀ j, j < 64 → ab .f32 (f j) = S (Ln.ix 64 k j)) (hq : Hid (Fv .f32 q (S (k + 64)))) :
    Calls Try.prog 31 #[.slice (some ⟨b0, 0, none⟩) n cc, .pointer (some ⟨g, 0, none⟩), .float .f32 q] w fun e w' => ∃ r, e = .returned (.float .f32 r) ∧ Hid (Fv .f32 r (tapSum x S k n)) ∧ w.Since w.heap.size w' := by
  have H0 := Lib.hid h0; have HX := Lib.hid hx; have HT := Lib.hid ht; have HF := Lib.hid hf; have HG := Lib.hid h
  have hgl : g < w.heap.size := h.lt
  clear h0 hx ht hf h
  go_enter Try.func31, Try.ntmps31
  go_wp2
  go_loopw [7, 13] (fun s i wr => ∃ (t r : Nat), t ≤ n ∧ i = .int .i64 (t : Nat) ∧ s = .float .f32 r ∧ Hid (Fv .f32 r (tapSum x S k t)) ∧ w.Since w.heap.size wr) (fun _ i _ => n - (intOf i).toNat)
  case atStart => exact ⟨0, 0, Nat.zero_le _, rfl, rfl, fv0, World.Since.refl _ _⟩
  case round =>
    obtain ⟨t, r, htn, rfl, rfl, hr, hs⟩ := hrel
    have HS := Lib.hid hs
    have hz := hs.size
    clear hs
    by_cases hlt : t < n
    · obtain ⟨g', off, e1, hg, hc⟩ := H0.out.at_ hlt
      injection e1 with e1; injection e1 with e1 e2 _; subst e1; subst e2
      have c0 := (HS.out.cell (a := ⟨b0, 0 + t * 2 + 0, none⟩) hg).trans (hc 0 (by decide))
      have c1 := (HS.out.cell (a := ⟨b0, 0 + t * 2 + 1, none⟩) hg).trans (hc 1 (by decide))
      simp only [TapR.cells, List.getD_cons_zero, List.getD_cons_succ, Nat.add_zero, Nat.zero_add] at c0 c1
      obtain ⟨d, hd, hd64⟩ : ∃ d : Nat, (x t).b = (d : Int) ∧ d ≤ 64 := ⟨(x t).b.toNat, by have := (HT.out t hlt); omega, by have := (HT.out t hlt); omega⟩
      have hgn : Hid (Fv .f32 (x t).g (ab .f32 (x t).g)) := Lib.hid ⟨HX.out t hlt, rfl⟩
      have HSUM : Hid (tapSum x S k (t + 1) = ad (tapSum x S k t) (mu (ab .f32 (x t).g) (S (k + 64 - d)))) := Lib.hid (by
        show ad _ (mu _ (S (k + 64 - (x t).b.toNat))) = _
        rw [hd]; rfl)
      rw [hd] at c0
      clear hc hd
      have HR1 := Lib.hid (HG.out.since HS.out hgl)
      by_cases hd0 : d = 0
      · subst hd0
        go_wp2_with (with_reducible_and_instances refine Lo.wpList_fo _ rfl _ _ _ _ _ rfl _ _ _ _ _ rfl rfl rfl (by assumption) (by assumption) ?_; intro rr nn hrr)
        go_roundw
        case rel => exact ⟨t + 1, rr, by omega, by go_num, rfl, by rw [HSUM.out]; exact hrr, since_drewN (HS.out.alloc hz _) _⟩
        case measure => simp [intOf]; omega
      · have hdi : decide ((0 : Int) < (d : Int)) = true := decide_eq_true (by omega)
        have hold : Hid (Fv .f32 (f ((k % 64 + 64 - d) % 64)) (S (k + 64 - d))) := Lib.hid ⟨HG.out.small _ (Nat.mod_lt _ (by decide)), by
          rw [HF.out _ (Nat.mod_lt _ (by decide)), show k % 64 + 64 - d = k % 64 + (64 - d) by omega, Ln.ix_at (by omega)]
          congr 1; omega⟩
        go_wp2_with (first | (with_reducible_and_instances refine Lo.wpList_fo _ rfl _ _ _ _ _ rfl _ _ _ _ _ rfl rfl rfl (by assumption) (by assumption) ?_; intro rr nn hrr) | (go_at_call 40; go_loud (refine (before_any g (k % 64) d f _ (HR1.out.since ((World.Since.refl _ _).alloc (Nat.le_refl _) _) (by omega)) (by omega) (by omega) hd64).mono ?_); rintro e w2 ⟨rfl, m2, rfl⟩))
        go_roundw
        case rel => exact ⟨t + 1, rr, by omega, by go_num, rfl, by rw [HSUM.out]; exact hrr, since_drewN (HS.out.alloc hz _) _⟩
        case measure => simp [intOf]; omega
    · obtain rfl : t = n := by omega
      go_wp2
      go_ret
      exact ⟨r, rfl, hr, HS.out⟩
/-- what stands when k samples have gone through a past -/
def TapIC (b0 n cc : Nat) (x : Nat → TapR) (S : Nat → O) (g bt br B k : Nat) (W : World) : Prop :=
  ∃ f, RingAt W g 64 (k % 64) f ∧ (∀ j, j < 64 → ab .f32 (f j) = S (Ln.ix 64 k j)) ∧ W.cell? ⟨bt, 0, none⟩ = some (.slice (some ⟨b0, 0, none⟩) n cc) ∧ W.cell? ⟨br, 0, none⟩ = some (.pointer (some ⟨g, 0, none⟩)) ∧ Rs TapR.cells 2 W B (some ⟨b0, 0, none⟩) n x
set_option maxHeartbeats 4000000 in
set_option maxRecDepth 100000 in
theorem closTaps_anyC (b0 n cc : Nat) (x : Nat → TapR) (S : Nat → O) (g bt br B k q : Nat) (w : World) (hx : ∀ k, k < n → (x k).ok) (ht : tapsOk x n) (hn : n ≤ 8) (h : TapIC b0 n cc x S g bt br B k w) (hq : q < 4294967296) (hS : S (k + 64) = ab .f32 q)
    (h1 : bt ≠ g) (h2 : br ≠ g) (l1 : bt < w.heap.size) (l2 : br < w.heap.size) (hB : B ≤ g) :
    Calls Try.prog 30 #[.float .f32 q, .pointer (some ⟨bt, 0, none⟩), .pointer (some ⟨br, 0, none⟩)] w fun e w' => ∃ r, e = .returned (.float .f32 r) ∧ Hid (Fv .f32 r (tapSum x S k n)) ∧ TapIC b0 n cc x S g bt br B (k + 1) w' ∧ On g w w' := by
  obtain ⟨f, hr, hf, hc1, hc2, hrs⟩ := h
  have hgl := hr.lt
  have HR := Lib.hid hr; have HF := Lib.hid hf; have HX := Lib.hid hx; have HT := Lib.hid ht; have HRS := Lib.hid hrs; have HC1 := Lib.hid hc1; have HC2 := Lib.hid hc2; have HS := Lib.hid hS
  have HQ : Hid (Fv .f32 q (S (k + 64))) := Lib.hid ⟨hq, hS.symm⟩
  clear hr hf hx ht hrs hS
  go_enter Try.func30, Try.ntmps30
  go_wp2_with fail
  go_at_call 31
  refine (sumOfTaps_anyC b0 n cc x g k q f S _ (HRS.out.more (by omega)) HX.out HT.out hn HR.out HF.out HQ).mono ?_
  rintro e w1 ⟨r, rfl, hr, hs⟩
  have HRV := Lib.hid hr; have S1 := Lib.hid hs
  have R1 := Lib.hid (HR.out.since hs hgl)
  have hc2' := (hs.cell (a := ⟨br, 0, none⟩) l2).trans HC2.out
  clear hr hs hc1 hc2
  go_wp2_with fail
  go_at_call 32
  refine (take_any g 64 (k % 64) q f _ R1.out (Nat.mod_lt _ (by decide)) (Nat.le_refl _) hq).mono ?_
  rintro e w2 ⟨rfl, hr2, ho⟩
  have R2 := Lib.hid hr2; have O2 := Lib.hid ho
  clear hr2 ho hc2'
  go_wp2
  go_ret
  have oo : On g w w2 := (On.of_since S1.out hgl).trans O2.out
  refine ⟨r, rfl, HRV.out, ⟨_, by rw [← Ln.mod_step (by decide)]; exact R2.out, fun j hj => ?_, ?_, ?_, HRS.out.keep fun g' o hg' => ?_⟩, oo⟩
  · rw [Ln.ix_step hj]
    by_cases e : j = k % 64
    · rw [if_pos e, if_pos e, HS.out]
    · rw [if_neg e, if_neg e]; exact HF.out j hj
  · exact (cell_of_block (oo.2 _ l1 h1) 0).trans HC1.out
  · exact (cell_of_block (oo.2 _ l2 h2) 0).trans HC2.out
  · exact cell_of_block (oo.2 g' (by omega) (by omega)) o
set_option maxHeartbeats 8000000 in
set_option maxRecDepth 100000 in
theorem implRunTaps_any (b0 n cc : Nat) (x : Nat → TapR) (A1 : Option Addr) (c1 : Nat) (xs : List Nat) (A2 : Option Addr) (m c2 : Nat) (ys : List Nat) (w : World) (h0 : Rs TapR.cells 2 w w.heap.size (some ⟨b0, 0, none⟩) n x) (hx : ∀ k, k < n → (x k).ok) (ht : tapsOk x n ∧ n ≤ 8) (h1 : Fs w w.heap.size A1 64 xs) (h2 : Fs w w.heap.size A2 m ys) (hm : m ≤ 256) :
    Calls Try.prog 9 #[.slice (some ⟨b0, 0, none⟩) n cc, .slice A1 64 c1, .slice A2 m c2] w (PTT m (fun k => tapSum x (tapS xs ys) k n) 64 (fun i => tapS xs ys (m + i)) w) := by
  have hfew : decide ((m : Int) ≤ 256) = true := decide_eq_true (by omega)
  have H0 := Lib.hid h0; have HX := Lib.hid hx; have HT := Lib.hid ht; have H1 := Lib.hid h1; have H2 := Lib.hid h2
  have hn8 : n ≤ 8 := ht.2
  clear h0 hx ht h1 h2
  go_enter Try.func9, Try.ntmps9
  go_wp2_with fail
  generalize hW1 : World.alloc w _ = W1
  have z1 : Hid (W1.heap.size = w.heap.size + 1) := Lib.hid (by rw [← hW1]; simp)
  have S1 : Hid (w.Since w.heap.size W1) := Lib.hid (by rw [← hW1]; exact (World.Since.refl _ _).alloc (Nat.le_refl _) _)
  have C1 : Hid (W1.cell? ⟨w.heap.size, 0, none⟩ = some (.slice (some ⟨b0, 0, none⟩) n cc)) := Lib.hid (by rw [← hW1]; simp [go_sem])
  clear hW1
  go_at_call 10
  refine (implValidTaps_b (some ⟨b0, 0, none⟩) n cc x true W1 (H0.out.now S1.out) (by omega) (by simp [HT.out])).mono ?_
  rintro e w2 ⟨rfl, hs2⟩
  have S2 := Lib.hid hs2
  have z2 : Hid (w.heap.size + 1 ≤ w2.heap.size) := Lib.hid (by have := hs2.size; have := z1.out; omega)
  have C2 : Hid (w2.cell? ⟨w.heap.size, 0, none⟩ = some (.slice (some ⟨b0, 0, none⟩) n cc)) := Lib.hid ((hs2.cell (a := ⟨w.heap.size, 0, none⟩) (by show w.heap.size < W1.heap.size; have := z1.out; omega)).trans C1.out)
  have SW2 : Hid (w.Since w.heap.size w2) := Lib.hid (since_step S1.out hs2)
  clear hs2
  go_wp2_with (first | (go_at_call 27; refine (implSamples_b _ _ _ _ _ hfew).mono ?_; rintro e w' ⟨rfl, rfl⟩) | fail)
  go_at_call 28
  refine (ringOf_any A1 64 c1 xs w2 (H1.out.now SW2.out) (by decide) (by decide)).mono ?_
  rintro e w3 ⟨rfl, hr3, hs3⟩
  have R3 := Lib.hid hr3; have S3 := Lib.hid hs3
  have z3 : Hid (w2.heap.size < w3.heap.size) := Lib.hid hr3.lt
  clear hr3 hs3
  go_wp2_with fail
  generalize hw4 : World.alloc w3 _ = w4
  have S4 : Hid (w3.Since w3.heap.size w4) := Lib.hid (by rw [← hw4]; exact (World.Since.refl _ _).alloc (Nat.le_refl _) _)
  have C4 : Hid (w4.cell? ⟨w3.heap.size, 0, none⟩ = some (.pointer (some ⟨w2.heap.size, 0, none⟩))) := Lib.hid (by rw [← hw4]; simp [go_sem])
  have z4 : Hid (w4.heap.size = w3.heap.size + 1) := Lib.hid (by rw [← hw4]; simp)
  clear hw4
  have R4 : Hid (RingAt w4 w2.heap.size 64 0 (fun j => wd xs j)) := Lib.hid (R3.out.since S4.out z3.out)
  have C5 : Hid (w4.cell? ⟨w.heap.size, 0, none⟩ = some (.slice (some ⟨b0, 0, none⟩) n cc)) := Lib.hid (((S4.out.cell (a := ⟨w.heap.size, 0, none⟩) (by show w.heap.size < w3.heap.size; have := z2.out; have := z3.out; omega)).trans (S3.out.cell (a := ⟨w.heap.size, 0, none⟩) (by show w.heap.size < w2.heap.size; have := z2.out; omega))).trans C2.out)
  have SW : Hid (w.Since w.heap.size w4) := Lib.hid (since_step (since_step SW2.out S3.out) S4.out)
  have B4 : Hid (Fs w4 w2.heap.size A2 m ys) := Lib.hid ((H2.out.since SW.out).more (by have := z2.out; omega))
  have y1 := z2.out; have y2 := z3.out; have y3 := z4.out
  refine (results_any A2 m c2 ys 30 #[.pointer (some ⟨w.heap.size, 0, none⟩), .pointer (some ⟨w3.heap.size, 0, none⟩)] w2.heap.size (TapIC b0 n cc x (tapS xs ys) w2.heap.size w.heap.size w3.heap.size w.heap.size) (fun k => tapSum x (tapS xs ys) k n) w4 B4.out (by omega) hm (fun _ _ => rfl) ?hI ?hst ?h0).mono ?_
  case hI =>
    rintro k W W' ⟨f, ha, hb, hc, hd, he⟩ hs1 hs2 hbl
    exact ⟨f, ha.of (hbl _ (by omega)), hb, (cell_of_block (hbl _ (by omega)) 0).trans hc, (cell_of_block (hbl _ (by omega)) 0).trans hd, he.keep fun g' o hg' => cell_of_block (hbl g' (by omega)) o⟩
  case hst =>
    rintro k q W hk rfl hi hs
    exact closTaps_anyC b0 n cc x (tapS xs ys) w2.heap.size w.heap.size w3.heap.size w.heap.size k _ W HX.out HT.out.1 hn8 hi (B4.out.2.1.at_ k) (tapS_new xs ys k) (by omega) (by omega) (by omega) (by omega) (by omega)
  case h0 => exact ⟨_, by rw [Nat.zero_mod]; exact R4.out, fun j hj => by rw [Ln.ix_zero hj]; exact (tapS_old hj).symm, C5.out, C4.out, H0.out.since SW.out⟩
  rintro e w5 ⟨os, rfl, hgs, har, ⟨f5, hr5, hf5, hd5, hc5, _⟩, ho5⟩
  have G5 := Lib.hid hgs; have A5 := Lib.hid har; have R5 := Lib.hid hr5; have F5 := Lib.hid hf5; have O5 := Lib.hid ho5
  clear hgs har hr5 hf5 hd5 ho5
  have z5 : Hid (w4.heap.size ≤ w5.heap.size) := Lib.hid O5.out.1.size
  clear y1 y2 y3
  go_wp2_with (go_at_call 33; refine (line_any _ 64 _ f5 w5 R5.out (Nat.mod_lt _ (by decide)) (by decide)).mono ?_; rintro e w6 ⟨ls, rfl, hg6, hl6, hs6⟩; have G6 := Lib.hid hg6; have L6 := Lib.hid hl6; have S6 := Lib.hid hs6; clear hg6 hl6 hs6)
  go_ret3
  have y1 := z2.out; have y2 := z3.out; have y3 := z4.out; have y4 := z5.out
  have SZ : w.Since w.heap.size w6 := since_step (SW.out.trans (O5.out.since (by omega))) S6.out
  refine ⟨w4.heap.size, w5.heap.size, os, ls, m, 64, rfl, (G5.out.since S6.out).read, G6.out.read, A5.out, fun i hi => ?_, SZ⟩
  have hi' : i < 64 := hi
  show ab .f32 (wd ls i) = _
  rw [L6.out i hi', F5.out _ (Nat.mod_lt _ (by decide)), Ln.ix_at hi']
end Go.Proofs.Ytflpackchlpedaa

/- Rows of structs that a loop appends to, one struct a round. -/
set_option linter.unusedVariables false
set_option linter.unusedSimpArgs false
namespace Go.Proofs.Ytflpackchlpedaa
open Fl Go.RowKit
section
variable {α : Type} {cells : α → List Value} {s : Nat}
theorem flat_len : ∀ (L : List α), (∀ x ∈ L, (cells x).length = s) → (L.flatMap cells).length = L.length * s
  | [], _ => by simp
  | x :: L, h => by
    rw [List.flatMap_cons, List.length_append, flat_len L (fun y hy => h y (List.mem_cons_of_mem _ hy)), h x (List.mem_cons_self ..), List.length_cons, Nat.succ_mul, Nat.add_comm]
theorem flat_get (hs : 0 < s) (d : α) : ∀ (L : List α), (∀ x ∈ L, (cells x).length = s) → ∀ k, k < L.length * s → (L.flatMap cells)[k]? = some (ceL cells s (fun j => L.getD j d) k)
  | [], _, k, hk => by simp at hk
  | x :: L, h, k, hk => by
    have hx := h x (List.mem_cons_self ..)
    rw [List.flatMap_cons]
    by_cases h1 : k < s
    · rw [List.getElem?_append_left (by omega)]
      unfold ceL
      rw [Nat.div_eq_of_lt h1, Nat.mod_eq_of_lt h1]
      simp [List.getD_eq_getElem?_getD, hx, h1]
    · rw [List.getElem?_append_right (by omega), hx]
      have hk2 : k - s < L.length * s := by rw [List.length_cons, Nat.succ_mul] at hk; omega
      rw [flat_get hs d L (fun y hy => h y (List.mem_cons_of_mem _ hy)) (k - s) hk2]
      unfold ceL
      have e1 : k / s = (k - s) / s + 1 := by
        have := Nat.add_div_right (k - s) hs
        rw [Nat.sub_add_cancel (by omega)] at this
        exact this
      have e2 : k % s = (k - s) % s := by
        have := Nat.add_mod_right (k - s) s
        rw [Nat.sub_add_cancel (by omega)] at this
        exact this
      rw [e1, e2]
      simp [List.getD_eq_getElem?_getD]
/-- a row of the loop's own, from block lo on, of these structs -/
def RwS (cells : α → List Value) (s : Nat) (T : TypeId) (lo : Nat) (w : World) (v : Value) (L : List α) : Prop := w.ownsRow lo T s v L.length (L.flatMap cells)
theorem RwS.start (T : TypeId) (w : World) (lo : Nat) (h : lo ≤ w.heap.size) : RwS cells s T lo (w.alloc (.cells #[] T)) (.slice (some ⟨w.heap.size, 0, none⟩) 0 0) [] :=
  ⟨by simp, .inr ⟨w.heap.size, 0, #[], rfl, h, Go.Deep.blk_alloc_new _ _, Nat.le_refl _, Nat.zero_le _, by simp, by simp⟩⟩
theorem RwS.keep {T : TypeId} {lo : Nat} {w w' : World} {v : Value} {L : List α} (h : RwS cells s T lo w v L) (e : ∀ b, lo ≤ b → b < w.heap.size → w'.heap[b]? = w.heap[b]?) : RwS cells s T lo w' v L := by
  obtain ⟨h1, h2⟩ := h
  refine ⟨h1, ?_⟩
  rcases h2 with h2 | ⟨g, cap, cur, e1, h3, h4, r⟩
  · exact .inl h2
  · exact .inr ⟨g, cap, cur, e1, h3, (e g h3 (Array.getElem?_eq_some_iff.1 h4).1).trans h4, r⟩
theorem RwS.since {T : TypeId} {lo : Nat} {w w' : World} {v : Value} {L : List α} (h : RwS cells s T lo w v L) (k : w.Since w.heap.size w') : RwS cells s T lo w' v L := h.keep fun b _ hb => k.block b hb
theorem RwS.on {T : TypeId} {lo g : Nat} {w w' : World} {v : Value} {L : List α} (h : RwS cells s T lo w v L) (o : On g w w') (hg : g < lo) : RwS cells s T lo w' v L := h.keep fun b _ hb => o.2 b hb (by omega)
/-- what it is in the end: a list that can be read -/
theorem RwS.done {T : TypeId} {lo : Nat} {w : World} {v : Value} {L : List α} (h : RwS cells s T lo w v L) (hs : 0 < s) (d : α) (hL : ∀ x ∈ L, (cells x).length = s) :
    (v = .slice none 0 0 ∧ L = []) ∨ ∃ g cap, v = .slice (some ⟨g, 0, none⟩) L.length cap ∧ L.length ≤ cap ∧ lo ≤ g ∧ g < w.heap.size ∧ Rs cells s w w.heap.size (some ⟨g, 0, none⟩) L.length (fun j => L.getD j d) := by
  obtain ⟨h1, h2⟩ := h
  rcases h2 with ⟨h2, h3⟩ | ⟨g, cap, cur, e, hg, hb, hnc, _, hsz, htk⟩
  · exact .inl ⟨h2, List.length_eq_zero_iff.1 h3⟩
  · have hgl := (Array.getElem?_eq_some_iff.1 hb).1
    refine .inr ⟨g, cap, e, hnc, hg, hgl, fun hn => ⟨g, 0, rfl, hgl, fun k hk => ?_⟩⟩
    have e1 : (cur.toList.take (L.length * s))[k]? = (L.flatMap cells)[k]? := by rw [htk]
    rw [List.getElem?_take_of_lt hk, Array.getElem?_toList, flat_get hs d L hL k hk] at e1
    rw [Nat.zero_add]
    simp only [World.cell?, hb]
    simpa using e1
theorem wpList_appS {ops : Array Oper} {rest : List Oper} {o : Oper} {a : Act} {Q : Exit → Act → World → Prop} {w : World} (hgd : o.guard = none) (sl x : Operand) (t T : TypeId)
    (ho : o.op = .call { callee := .builtin .append, args := #[sl, x], argTypes := #[t, t] }) (lo : Nat) (i : TypeInfo) (z : Value) (bytes : Nat) (ht : Try.prog.underlying t = some (.slice T)) (hi : Try.prog.info? T = some i) (hz : i.zero = some z)
    (hsize : i.size = s) (hby : i.bytes = bytes) (hzs : z.cells.size = s) (hsz : 0 < s) (hbytes : bytes ≤ 1024) (v : Value) (L : List α) (e : α) (hv : a.eval sl = v) (b : Nat)
    (hx : a.eval x = .slice (some ⟨b, 0, none⟩) 1 1) (he : (cells e).length = s) (hc : ∀ j u, (cells e)[j]? = some u → w.cell? ⟨b, j, none⟩ = some u) (h1 : ∀ u ∈ cells e, u.oneCell' = true) (hk : L.length < 1048576) (hlo : lo ≤ w.heap.size) (hR : RwS cells s T lo w v L)
    (h : ∀ v' w', Hid (RwS cells s T lo w' v' (L ++ [e])) → Hid (v' ≠ .slice none 0 0) → Hid (w.Since lo w') → wpList Try.prog ops Q rest (a.put o.dst v') w') : wpList Try.prog ops Q (o :: rest) a w := by
  refine wpList_append_own (P := Try.prog) w hgd sl x t ho lo T i z s bytes ht hi hz hsize hby hzs hsz v L.length (L.flatMap cells) hv hR ⟨b, 0, none⟩ 1 1 (cells e) hx (by rw [he, Nat.one_mul]) ?_ h1 ?_ ?_ hlo ?_
  · intro j u hj
    have := hc j u hj
    rw [show Addr.add ⟨b, 0, none⟩ j = ⟨b, j, none⟩ by cases j <;> simp [Addr.add]]
    exact this
  · unfold maxLen; omega
  · have := Nat.mul_le_mul (show L.length + 1 ≤ 1048576 by omega) hbytes
    omega
  · intro v' w' hown hg hne
    refine h v' w' (Lib.hid ?_) (Lib.hid fun h0 => absurd (hne.1 h0).2 (by decide)) (Lib.hid ⟨hg.os, hg.tape, hg.output, hg.size, fun i hi => ?_⟩)
    · unfold RwS
      rw [List.flatMap_append, List.length_append]
      simpa using hown
    · refine hg.block i (by omega) fun e => ?_
      rcases hR.2 with ⟨h2, _⟩ | ⟨g, cap, cur, e1, h3, _⟩
      · rw [h2] at e; cases e
      · rw [e1] at e
        injection e with e
        have : i = g := e
        omega
end
end Go.Proofs.Ytflpackchlpedaa

/- Draws: bytes that can be read, and the source of draws. -/
set_option linter.unusedVariables false
set_option linter.unusedSimpArgs false
namespace Go.Proofs.Ytflpackchlpedaa
open Fl Go.RowKit
theorem and255u (z : Int) : 0 ≤ wrap64 (bits BinOp.and IntKind.u64 z 255) ∧ wrap64 (bits BinOp.and IntKind.u64 z 255) < 256 := by
  have h : bits BinOp.and IntKind.u64 z 255 = z % 256 := by
    have hb : (BitVec.ofInt 64 255).toNat = 255 := by decide
    have ha : (BitVec.ofInt 64 z).toNat = (z % 18446744073709551616).toNat := by rw [BitVec.toNat_ofInt]; rfl
    have hw : ∀ n : Nat, n < 256 → IntKind.u64.wrap (n : Int) = n := fun n h => by rw [IntKind.wrap_u64]; omega
    show IntKind.u64.wrap (((BitVec.ofInt 64 z &&& BitVec.ofInt 64 255).toNat : Nat) : Int) = _
    rw [BitVec.toNat_and, ha, hb]
    have e : ∀ n : Nat, n &&& 255 = n % 256 := fun n => Nat.and_two_pow_sub_one_eq_mod n 8
    rw [e, hw _ (Nat.mod_lt _ (by decide))]
    omega
  rw [h]
  unfold wrap64
  omega
/-- bytes that can be read -/
def Bs (w : World) (B : Nat) (A : Option Addr) (n : Nat) (xs : List Int) : Prop :=
  xs.length = n ∧ (∀ k, 0 ≤ wi xs k ∧ wi xs k < 256) ∧ (0 < n → ∃ g off, A = some ⟨g, off, none⟩ ∧ g < B ∧ ∀ k, k < n → w.cell? ⟨g, off + k, none⟩ = some (.int .u8 (wi xs k)))
theorem Bs.keep {w w' : World} {B : Nat} {A : Option Addr} {n : Nat} {xs : List Int} (h : Bs w B A n xs) (hk : ∀ g o, g < B → w'.cell? ⟨g, o, none⟩ = w.cell? ⟨g, o, none⟩) : Bs w' B A n xs :=
  ⟨h.1, h.2.1, fun hn => by
    obtain ⟨g, off, e, hg, hc⟩ := h.2.2 hn
    exact ⟨g, off, e, hg, fun k hk' => (hk g _ hg).trans (hc k hk')⟩⟩
theorem Bs.more {w : World} {B B' : Nat} {A : Option Addr} {n : Nat} {xs : List Int} (h : Bs w B A n xs) (hB : B ≤ B') : Bs w B' A n xs :=
  ⟨h.1, h.2.1, fun hn => by
    obtain ⟨g, off, e, hg, hc⟩ := h.2.2 hn
    exact ⟨g, off, e, by omega, hc⟩⟩
theorem Bs.since {w w' : World} {B B' : Nat} {A : Option Addr} {n : Nat} {xs : List Int} (h : Bs w B A n xs) (hs : w.Since B' w') (hB : B ≤ B') : Bs w' B A n xs :=
  h.keep fun g o hg => hs.cell (a := ⟨g, o, none⟩) (by show g < B'; omega)
theorem Bs.drewN {w : World} {B : Nat} {A : Option Addr} {n : Nat} {xs : List Int} (h : Bs w B A n xs) (m : Nat) : Bs (w.drewN m) B A n xs := h.keep fun _ _ _ => rfl
/-- a source's block -/
def SrcB (w : World) (b : Nat) (A : Option Addr) (n c : Nat) (i sd : Int) : Prop := w.heap[b]? = some (.cells #[.slice A n c, .int .i64 i, .int .u64 sd] 86 (0, 0))
theorem SrcB.lt {w : World} {b n c : Nat} {A : Option Addr} {i sd : Int} (h : SrcB w b A n c i sd) : b < w.heap.size := (Array.getElem?_eq_some_iff.1 h).1
theorem SrcB.c0 {w : World} {b n c : Nat} {A : Option Addr} {i sd : Int} (h : SrcB w b A n c i sd) : w.cell? ⟨b, 0, none⟩ = some (.slice A n c) := by unfold SrcB at h; simp [World.cell?, h]
theorem SrcB.c1 {w : World} {b n c : Nat} {A : Option Addr} {i sd : Int} (h : SrcB w b A n c i sd) : w.cell? ⟨b, 1, none⟩ = some (.int .i64 i) := by unfold SrcB at h; simp [World.cell?, h]
theorem SrcB.c2 {w : World} {b n c : Nat} {A : Option Addr} {i sd : Int} (h : SrcB w b A n c i sd) : w.cell? ⟨b, 2, none⟩ = some (.int .u64 sd) := by unfold SrcB at h; simp [World.cell?, h]
theorem SrcB.free {w : World} {b n c q : Nat} {A : Option Addr} {i sd : Int} (h : SrcB w b A n c i sd) : w.frozen? ⟨b, q, none⟩ = false := by unfold SrcB at h; simp [World.frozen?, h]
theorem SrcB.of {w w' : World} {b n c : Nat} {A : Option Addr} {i sd : Int} (h : SrcB w b A n c i sd) (e : w'.heap[b]? = w.heap[b]?) : SrcB w' b A n c i sd := e.trans h
theorem SrcB.set1 {w : World} {b n c : Nat} {A : Option Addr} {i sd i' : Int} (h : SrcB w b A n c i sd) : SrcB (w.setCell ⟨b, 1, none⟩ (.int .i64 i')) b A n c i' sd := by
  unfold SrcB at h ⊢
  simp [World.setCell, Array.getElem?_modify, h]
theorem SrcB.set2 {w : World} {b n c : Nat} {A : Option Addr} {i sd sd' : Int} (h : SrcB w b A n c i sd) : SrcB (w.setCell ⟨b, 2, none⟩ (.int .u64 sd')) b A n c i sd' := by
  unfold SrcB at h ⊢
  simp [World.setCell, Array.getElem?_modify, h]
/-- a source in block b that has drawn at most K times, whose bytes lie in blocks before B -/
def Src (B b K : Nat) (w : World) : Prop := ∃ (A : Option Addr) (n c : Nat) (xs : List Int) (i sd : Int), SrcB w b A n c i sd ∧ Bs w B A n xs ∧ B ≤ b ∧ n ≤ 1048576 ∧ 0 ≤ i ∧ i ≤ (K : Int)
theorem Src.on {B b K : Nat} {w w' : World} (h : Src B b K w) (hs : w.Since (b + 1) w') : Src B b K w' := by
  obtain ⟨A, n, c, xs, i, sd, h1, h2, h3, h4, h5⟩ := h
  exact ⟨A, n, c, xs, i, sd, h1.of (hs.block b (by omega)), h2.since hs (by omega), h3, h4, h5⟩
theorem Src.up {B b K K' : Nat} {w : World} (h : Src B b K w) (hK : K ≤ K') : Src B b K' w := by
  obtain ⟨A, n, c, xs, i, sd, h1, h2, h3, h4, h5, h6⟩ := h
  exact ⟨A, n, c, xs, i, sd, h1, h2, h3, h4, h5, by omega⟩
theorem Src.lt {B b K : Nat} {w : World} (h : Src B b K w) : b < w.heap.size := by
  obtain ⟨A, n, c, xs, i, sd, h1, h2, h3, h4, h5, h6⟩ := h
  exact h1.lt
theorem Src.drewN {B b K : Nat} {w : World} (h : Src B b K w) (m : Nat) : Src B b K (w.drewN m) := h.on (since_drewN (World.Since.refl _ _) m)
theorem on_post {b lo : Nat} {w a c : World} (h : On b w a) (s : a.Since lo c) (hl : w.heap.size ≤ lo) (hb : b < w.heap.size) : On b w c :=
  ⟨h.1.trans (since_mono s (by omega)), fun x hx hn => (s.block x (by omega)).trans (h.2 x hx hn)⟩
theorem Src.low {B b K : Nat} {w : World} (h : Src B b K w) : B ≤ b := by
  obtain ⟨A, n, c, xs, i, sd, h1, h2, h3, h4, h5, h6⟩ := h
  exact h3
set_option maxHeartbeats 4000000 in
set_option maxRecDepth 100000 in
theorem next_any (B b K : Nat) (w : World) (h : Src B b K w) (hK : K ≤ 1000000000) :
    Calls Try.prog 57 #[.pointer (some ⟨b, 0, none⟩)] w fun e w' => ∃ v : Int, e = .returned (.int .i64 v) ∧ 0 ≤ v ∧ v < 256 ∧ Src B b (K + 1) w' ∧ On b w w' := by
  obtain ⟨A, n, c, xs, i, sd, h1, h2, h3, h4, h5, h6⟩ := h
  have H1 := Lib.hid h1; have H2 := Lib.hid h2
  have c0 := h1.c0; have c1 := h1.c1; have c2 := h1.c2
  have f1 := h1.free (q := 1); have f2 := h1.free (q := 2)
  clear h1 h2
  by_cases hi : i < (n : Int)
  · have hd : decide (i < (n : Int)) = true := decide_eq_true hi
    have hd2 : decide (i + 1 ≤ (n : Int)) = true := decide_eq_true (by omega)
    obtain ⟨j, rfl⟩ := Int.eq_ofNat_of_zero_le h5
    obtain ⟨g, off, rfl, hg, hc⟩ := H2.out.2.2 (by omega)
    have hcell := hc j (by omega)
    have hv := H2.out.2.1 j
    clear hc
    go_enter Try.func57, Try.ntmps57
    go_wp2_with fail
    go_quiet (fail)
    go_wp2_with fail
    go_quiet (fail)
    go_wp2_with fail
    generalize IntKind.wrap .u64 (IntKind.wrap .u64 (_ + _) + 1442695040888963407) = sd'
    generalize hW : World.setCell _ _ _ = W
    have B1 : Hid (SrcB W b (some ⟨g, off, none⟩) n c ((j : Int) + 1) sd') := Lib.hid (by rw [← hW]; exact H1.out.set1.set2)
    have O1 : Hid (On b w W) := Lib.hid (by rw [← hW]; exact ((On.refl _ _).set _ _).set _ _)
    have d0 := B1.out.c0; have d1 := B1.out.c1; have d2 := B1.out.c2
    clear hW
    go_quiet (fail)
    go_wp2
    go_ret
    exact ⟨_, rfl, hv.1, hv.2, ⟨_, n, c, xs, _, sd', B1.out, by first | exact (H2.out.since O1.out.1 h3).drewN _ | exact ((H2.out.since O1.out.1 h3).drewN _).drewN _, h3, h4, by omega, by omega⟩, by first | exact O1.out.drewN _ | exact (O1.out.drewN _).drewN _⟩
  · have hd : decide (i < (n : Int)) = false := decide_eq_false hi
    have hd2 : decide (i + 1 ≤ (n : Int)) = false := decide_eq_false (by omega)
    go_enter Try.func57, Try.ntmps57
    go_wp2_with fail
    go_quiet (fail)
    go_wp2_with fail
    generalize IntKind.wrap .u64 (IntKind.wrap .u64 _ + 1442695040888963407) = sd'
    generalize hW : World.setCell _ _ _ = W
    have B1 : Hid (SrcB W b A n c (i + 1) sd') := Lib.hid (by rw [← hW]; exact H1.out.set1.set2)
    have O1 : Hid (On b w W) := Lib.hid (by rw [← hW]; exact ((On.refl _ _).set _ _).set _ _)
    have d0 := B1.out.c0; have d1 := B1.out.c1; have d2 := B1.out.c2
    clear hW
    go_quiet (fail)
    go_wp2
    go_ret
    have h255 := and255u (sd' / 1099511627776)
    exact ⟨_, rfl, h255.1, h255.2, ⟨_, n, c, xs, _, sd', B1.out, by first | exact (H2.out.since O1.out.1 h3).drewN _ | exact ((H2.out.since O1.out.1 h3).drewN _).drewN _, h3, h4, by omega, by omega⟩, by first | exact O1.out.drewN _ | exact (O1.out.drewN _).drewN _⟩
end Go.Proofs.Ytflpackchlpedaa

/- Draws: picks of numbers. -/
set_option linter.unusedVariables false
set_option linter.unusedSimpArgs false
namespace Go.Proofs.Ytflpackchlpedaa
open Fl Go.RowKit
set_option maxHeartbeats 4000000 in
set_option maxRecDepth 100000 in
theorem pick_any (B b K : Nat) (n : Int) (w : World) (h : Src B b K w) (hK : K ≤ 1000000) (hn : n ≤ 1000000000) :
    Calls Try.prog 24 #[.pointer (some ⟨b, 0, none⟩), .int .i64 n] w fun e w' => ∃ v : Int, e = .returned (.int .i64 v) ∧ 0 ≤ v ∧ (1 ≤ n → v < n) ∧ Src B b (K + 2) w' ∧ On b w w' := by
  by_cases h1 : n ≤ 1
  · have hd : decide (n ≤ 1) = true := decide_eq_true h1
    go_enter Try.func24, Try.ntmps24
    go_wp2
    go_ret
    exact ⟨0, rfl, by omega, fun _ => by omega, h.up (by omega), On.refl _ _⟩
  · have hd : decide (n ≤ 1) = false := decide_eq_false h1
    have hz : n ≠ 0 := by omega
    have HH := Lib.hid h; clear h
    by_cases h2 : 200 < n
    · have hd2 : decide (200 < n) = true := decide_eq_true h2
      go_enter Try.func24, Try.ntmps24
      go_wp2_with fail
      refine (next_any B b K w HH.out (by omega)).mono ?_
      rintro e w1 ⟨v1, rfl, a1, a2, s1, o1⟩
      have S1 := Lib.hid s1; have O1 := Lib.hid o1; clear s1 o1
      go_wp2_with fail
      refine (next_any B b (K + 1) w1 S1.out (by omega)).mono ?_
      rintro e w2 ⟨v2, rfl, a3, a4, s2, o2⟩
      have S2 := Lib.hid s2; have O2 := Lib.hid o2; clear s2 o2
      go_wp2
      go_ret
      exact ⟨_, rfl, by exact Int.emod_nonneg _ hz, fun _ => by exact Int.emod_lt_of_pos _ (by omega), S2.out, O1.out.trans O2.out⟩
    · have hd2 : decide (200 < n) = false := decide_eq_false h2
      go_enter Try.func24, Try.ntmps24
      go_wp2_with fail
      refine (next_any B b K w HH.out (by omega)).mono ?_
      rintro e w1 ⟨v1, rfl, a1, a2, s1, o1⟩
      have S1 := Lib.hid s1; have O1 := Lib.hid o1; clear s1 o1
      go_wp2
      go_ret
      exact ⟨_, rfl, by exact Int.emod_nonneg _ hz, fun _ => by exact Int.emod_lt_of_pos _ (by omega), S1.out.up (by omega), O1.out⟩
theorem one_any (B b K : Nat) (n : Int) (w : World) (h : Src B b K w) (hK : K ≤ 1000000) (hn : n ≤ 1000000000) :
    Calls Try.prog 58 #[.pointer (some ⟨b, 0, none⟩), .int .i64 n] w fun e w' => ∃ v : Bool, e = .returned (.bool v) ∧ Src B b (K + 2) w' ∧ On b w w' := by
  have HH := Lib.hid h; clear h
  go_enter Try.func58, Try.ntmps58
  go_wp2_with fail
  refine (pick_any B b K n w HH.out hK hn).mono ?_
  rintro e w1 ⟨v1, rfl, a1, a2, s1, o1⟩
  have S1 := Lib.hid s1; have O1 := Lib.hid o1; clear s1 o1
  go_wp2
  go_ret
  exact ⟨_, rfl, S1.out, O1.out⟩
/-- one of a list of numbers that lie in a block of their own -/
theorem among_any (B b K g n : Nat) (xs : List Int) (w : World) (h : Src B b K w) (hK : K ≤ 1000000) (hx : Is w w.heap.size (some ⟨g, 0, none⟩) n xs) (h0 : 0 < n) (hn : n ≤ 1000000) (hg : b < g) (hlt : g < w.heap.size) :
    Calls Try.prog 60 #[.pointer (some ⟨b, 0, none⟩), .slice (some ⟨g, 0, none⟩) n n] w fun e w' => ∃ k : Nat, e = .returned (.int .i64 (wi xs k)) ∧ k < n ∧ Src B b (K + 2) w' ∧ On b w w' := by
  have HH := Lib.hid h; have HX := Lib.hid hx; clear h hx
  go_enter Try.func60, Try.ntmps60
  go_wp2_with fail
  refine (pick_any B b K n w HH.out hK (by omega)).mono ?_
  rintro e w1 ⟨v1, rfl, a1, a2, s1, o1⟩
  have S1 := Lib.hid s1; have O1 := Lib.hid o1; clear s1 o1
  obtain ⟨k, rfl⟩ := Int.eq_ofNat_of_zero_le a1
  have hk : k < n := by have := a2 (by omega); omega
  have hcell : w1.cell? ⟨g, k, none⟩ = some (.int .i64 (wi xs k)) := by
    obtain ⟨g', off, e, hg', hc⟩ := HX.out.2 h0
    injection e with e
    injection e with e1 e2
    subst e1; subst e2
    have := hc k hk
    rw [Nat.zero_add] at this
    exact (cell_of_block (O1.out.2 g hlt (by omega)) _).trans this
  go_wp2
  go_ret
  exact ⟨k, rfl, hk, S1.out, O1.out⟩
end Go.Proofs.Ytflpackchlpedaa

/- Draws: numbers and lists of numbers, of any bits. -/
set_option linter.unusedVariables false
set_option linter.unusedSimpArgs false
namespace Go.Proofs.Ytflpackchlpedaa
open Fl Go.RowKit
set_option maxHeartbeats 4000000 in
set_option maxRecDepth 100000 in
theorem plain_any (B b K : Nat) (w : World) (h : Src B b K w) (hK : K ≤ 900000) :
    Calls Try.prog 36 #[.pointer (some ⟨b, 0, none⟩)] w fun e w' => ∃ q Q, e = .returned (.float .f32 q) ∧ Hid (Fv .f32 q Q) ∧ Src B b (K + 4) w' ∧ On b w w' := by
  have HH := Lib.hid h; clear h
  go_enter Try.func36, Try.ntmps36
  go_wp2_with fail
  refine (pick_any B b K 129 w HH.out (by omega) (by omega)).mono ?_
  rintro e w1 ⟨v1, rfl, a1, a2, s1, o1⟩
  have a3 := a2 (by omega)
  have S1 := Lib.hid s1; have O1 := Lib.hid o1; clear s1 o1 a2
  go_wp2_with fail
  refine (one_any B b (K + 2) 4 w1 S1.out (by omega) (by omega)).mono ?_
  rintro e w2 ⟨v2, rfl, s2, o2⟩
  have S2 := Lib.hid s2; have O2 := Lib.hid o2; clear s2 o2
  have q1 := fI_fv (v1 - 64)
  have q7 : Hid (Fv .f32 1088421888 (some 1088421888)) := fvc (by decide) (by decide)
  have q16 : Hid (Fv .f32 1098907648 (some 1098907648)) := fvc (by decide) (by decide)
  cases v2
  all_goals
    go_wp2_with (with_reducible_and_instances refine Lo.wpList_fo _ rfl _ _ _ _ _ rfl _ _ _ _ _ rfl rfl rfl (by assumption) (by assumption) ?_; intro rr nn hrr)
    go_ret
    exact ⟨_, _, rfl, hrr, S2.out.drewN _, (O1.out.trans O2.out).drewN _⟩
theorem is_alloc (w : World) (T : TypeId) (xs : List Int) : Is (w.alloc (.cells (xs.map (Value.int .i64)).toArray T)) (w.alloc (.cells (xs.map (Value.int .i64)).toArray T)).heap.size (some ⟨w.heap.size, 0, none⟩) xs.length xs :=
  ⟨rfl, fun _ => ⟨w.heap.size, 0, rfl, by simp, fun k hk => by
    have h := Go.Deep.blk_alloc_new w (.cells (xs.map (Value.int .i64)).toArray T)
    rw [Nat.zero_add]
    unfold World.cell?
    simp only [h]
    simp [hk, iv, wi]⟩⟩
def numsA : List Int := [0, 2147483648, 2139095040, 4286578688, 2143289344, 1, 2139095039, 8388608, 8388607, 2147483649]
def numsB : List Int := [8388608, 2130706432, 1610612736, 536870912]
theorem numsA_in : ∀ k, k < 10 → 0 ≤ wi numsA k ∧ wi numsA k < 4294967296 := by decide
theorem numsB_in : ∀ k, k < 4 → 0 ≤ wi numsB k ∧ wi numsB k < 4294967296 := by decide
theorem from_int (z : Int) (h0 : 0 ≤ z) (h1 : z < 4294967296) (w : World) : Calls Try.prog 59 #[.int .i64 z] w fun e w' => ∃ q, e = .returned (.float .f32 q) ∧ Hid (Fv .f32 q (ab .f32 q)) ∧ w = w' := by
  obtain ⟨m, rfl⟩ := Int.eq_ofNat_of_zero_le h0
  have hm : m < 4294967296 := by omega
  exact (l01From_any m w hm).mono fun e w' ⟨h1, h2⟩ => ⟨m, h1, Lib.hid ⟨hm, rfl⟩, h2⟩
set_option maxHeartbeats 4000000 in
set_option maxRecDepth 100000 in
theorem float_any (B b K : Nat) (w : World) (h : Src B b K w) (hK : K ≤ 800000) :
    Calls Try.prog 25 #[.pointer (some ⟨b, 0, none⟩)] w fun e w' => ∃ q Q, e = .returned (.float .f32 q) ∧ Hid (Fv .f32 q Q) ∧ Src B b (K + 12) w' ∧ On b w w' := by
  have HH := Lib.hid h
  have hlt := h.lt
  clear h
  go_enter Try.func25, Try.ntmps25
  go_wp2_with fail
  refine (one_any B b K 12 w HH.out (by omega) (by omega)).mono ?_
  rintro e w1 ⟨v1, rfl, s1, o1⟩
  have S1 := Lib.hid s1; have O1 := Lib.hid o1; clear s1 o1
  cases v1
  · go_wp2_with fail
    refine (plain_any B b (K + 2) w1 S1.out (by omega)).mono ?_
    rintro e w2 ⟨q, Q, rfl, hq, s2, o2⟩
    have S2 := Lib.hid s2; have O2 := Lib.hid o2; clear s2 o2
    go_wp2
    go_ret
    exact ⟨_, _, rfl, hq, S2.out.up (by omega), O1.out.trans O2.out⟩
  · go_wp2_with fail
    refine (pick_any B b (K + 2) 4 w1 S1.out (by omega) (by omega)).mono ?_
    rintro e w2 ⟨v, rfl, a1, a2, s2, o2⟩
    have a3 := a2 (by omega)
    have S2 := Lib.hid s2; have O2 := Lib.hid (O1.out.trans o2); clear s2 o2 a2
    have hlt2 : b < w2.heap.size := S2.out.lt
    by_cases h0 : v = 0
    · subst h0
      go_wp2_with fail
      generalize hW : World.alloc _ _ = W
      have X1 : Hid (Is W W.heap.size (some ⟨w2.heap.size, 0, none⟩) 10 numsA) := Lib.hid (by rw [← hW]; exact is_alloc w2 2 numsA)
      have Z1 : Hid (W.heap.size = w2.heap.size + 1) := Lib.hid (by rw [← hW]; simp)
      have O3 : Hid (On b w W) := Lib.hid (by rw [← hW]; exact O2.out.alloc (by omega) _)
      have S3 : Hid (Src B b (K + 4) W) := Lib.hid (S2.out.on (by rw [← hW]; exact (World.Since.refl _ _).alloc (by omega) _))
      clear hW
      have hz := Z1.out
      refine (among_any B b (K + 4) w2.heap.size 10 numsA W S3.out (by omega) X1.out (by omega) (by omega) hlt2 (by omega)).mono ?_
      rintro e w3 ⟨k, rfl, hk, s4, o4⟩
      have S4 := Lib.hid s4; have O4 := Lib.hid (O3.out.trans o4); clear s4 o4
      have hm := numsA_in k hk
      generalize wi numsA k = m at *
      go_wp2_with fail
      refine (from_int m hm.1 hm.2 _).mono ?_
      rintro e w5 ⟨q, rfl, hq, rfl⟩
      go_wp2
      go_ret
      exact ⟨_, _, rfl, hq, S4.out.up (by omega), O4.out⟩
    · by_cases h1 : v = 1
      · subst h1
        go_wp2_with fail
        refine (pick_any B b (K + 4) 65536 w2 S2.out (by omega) (by omega)).mono ?_
        rintro e w3 ⟨v3, rfl, b1, b2, s3, o3⟩
        have b3 := b2 (by omega)
        have S3 := Lib.hid s3; have O3 := Lib.hid (O2.out.trans o3); clear s3 o3 b2
        go_wp2_with fail
        refine (pick_any B b (K + 4 + 2) 65536 w3 S3.out (by omega) (by omega)).mono ?_
        rintro e w4 ⟨v4, rfl, c1, c2, s4, o4⟩
        have c3 := c2 (by omega)
        have S4 := Lib.hid s4; have O4 := Lib.hid (O3.out.trans o4); clear s4 o4 c2
        go_wp2_with fail
        refine (from_int (v3 * 65536 + v4) (by omega) (by omega) _).mono ?_
        rintro e w5 ⟨q, rfl, hq, rfl⟩
        go_wp2
        go_ret
        exact ⟨_, _, rfl, hq, S4.out.up (by omega), O4.out⟩
      · by_cases h2 : v = 2
        · subst h2
          go_wp2_with fail
          refine (pick_any B b (K + 4) 65536 w2 S2.out (by omega) (by omega)).mono ?_
          rintro e w3 ⟨v3, rfl, b1, b2, s3, o3⟩
          have b3 := b2 (by omega)
          have S3 := Lib.hid s3; have O3 := Lib.hid (O2.out.trans o3); clear s3 o3 b2
          go_wp2_with fail
          refine (from_int (v3 * 65536) (by omega) (by omega) _).mono ?_
          rintro e w5 ⟨q, rfl, hq, rfl⟩
          go_wp2
          go_ret
          exact ⟨_, _, rfl, hq, S3.out.up (by omega), O3.out⟩
        · have e0 : decide (v = 0) = false := decide_eq_false h0
          have e1 : decide (v = 1) = false := decide_eq_false h1
          have e2 : decide (v = 2) = false := decide_eq_false h2
          have g0 : (v == 0) = false := by simpa using h0
          have g1 : (v == 1) = false := by simpa using h1
          have g2 : (v == 2) = false := by simpa using h2
          go_wp2_with fail
          refine (plain_any B b (K + 4) w2 S2.out (by omega)).mono ?_
          rintro e w3 ⟨q, Q, rfl, hq, s3, o3⟩
          have S3 := Lib.hid s3; have O3 := Lib.hid (O2.out.trans o3); clear s3 o3
          have hlt3 : b < w3.heap.size := S3.out.lt
          go_wp2_with fail
          generalize hW : World.alloc _ _ = W
          have X1 : Hid (Is W W.heap.size (some ⟨w3.heap.size, 0, none⟩) 4 numsB) := Lib.hid (by rw [← hW]; exact is_alloc w3 2 numsB)
          have Z1 : Hid (W.heap.size = w3.heap.size + 1) := Lib.hid (by rw [← hW]; simp)
          have O5 : Hid (On b w W) := Lib.hid (by rw [← hW]; exact O3.out.alloc (by omega) _)
          have S5 : Hid (Src B b (K + 4 + 4) W) := Lib.hid (S3.out.on (by rw [← hW]; exact (World.Since.refl _ _).alloc (by omega) _))
          clear hW
          have hz := Z1.out
          refine (among_any B b (K + 4 + 4) w3.heap.size 4 numsB W S5.out (by omega) X1.out (by omega) (by omega) hlt3 (by omega)).mono ?_
          rintro e w6 ⟨k, rfl, hk, s6, o6⟩
          have S6 := Lib.hid s6; have O6 := Lib.hid (O5.out.trans o6); clear s6 o6
          have hm := numsB_in k hk
          generalize wi numsB k = m at *
          go_wp2_with fail
          refine (from_int m hm.1 hm.2 _).mono ?_
          rintro e w7 ⟨q2, rfl, hq2, rfl⟩
          go_wp2_with (with_reducible_and_instances refine Lo.wpList_fo _ rfl _ _ _ _ _ rfl _ _ _ _ _ rfl rfl rfl (by assumption) (by assumption) ?_; intro rr nn hrr)
          go_ret
          exact ⟨_, _, rfl, hrr, (S6.out.up (by omega)).drewN _, O6.out.drewN _⟩
end Go.Proofs.Ytflpackchlpedaa

/- Draws: lists of numbers, and what chooses by a byte. -/
set_option linter.unusedVariables false
set_option linter.unusedSimpArgs false
namespace Go.Proofs.Ytflpackchlpedaa
open Fl Go.RowKit
/-- a row of numbers whatever they are -/
def RwA (lo : Nat) (w : World) (v : Value) (k : Nat) : Prop := (∃ F, Rw lo w v k F) ∧ ∃ g c, v = .slice (some ⟨g, 0, none⟩) k c
theorem Rw.like {lo : Nat} {w : World} {v : Value} {k : Nat} {F G : Nat → O} (h : Rw lo w v k F) (e : ∀ j, j < k → F j = G j) : Rw lo w v k G := by
  obtain ⟨os, h1, h2, h3⟩ := h
  exact ⟨os, h1, h2, fun j hj => (h3 j hj).trans (e j hj)⟩
theorem Rw.fin {lo : Nat} {w : World} {v : Value} {k : Nat} {F : Nat → O} (h : Rw lo w v k F) : ∃ (A : Option Addr) (c : Nat) (xs : List Nat), v = .slice A k c ∧ k ≤ c ∧ (A = none → k = 0 ∧ c = 0) ∧ (∀ a, A = some a → ∃ g, a = ⟨g, 0, none⟩ ∧ lo ≤ g) ∧ Gs 33 w lo A k xs ∧ Are ⟨A, k, xs⟩ F := by
  obtain ⟨os, h1, hs, hf⟩ := h
  rcases h1.2 with ⟨rfl, rfl⟩ | ⟨g, cap, cur, rfl, hg, _, hk, _⟩
  · exact ⟨none, 0, os, rfl, Nat.le_refl _, fun _ => ⟨rfl, rfl⟩, (fun a h => by cases h), Gs.of_own h1 hs, hf⟩
  · exact ⟨some ⟨g, 0, none⟩, cap, os, rfl, hk, (fun h => by cases h), fun a h => by cases h; exact ⟨g, rfl, hg⟩, Gs.of_own h1 hs, hf⟩
theorem RwA.grown {lo : Nat} {w : World} {v : Value} {k : Nat} {F : Nat → O} (h : Rw lo w v (k + 1) F) : RwA lo w v (k + 1) := by
  refine ⟨⟨F, h⟩, ?_⟩
  obtain ⟨A, c, xs, rfl, _, hn, hs, _⟩ := h.fin
  cases A with
  | none => exact absurd (hn rfl).1 (by omega)
  | some a =>
    obtain ⟨g, rfl, _⟩ := hs a rfl
    exact ⟨g, c, rfl⟩
theorem RwA.end_ {lo : Nat} {w : World} {v : Value} {k : Nat} (h : RwA lo w v k) : ∃ g c xs, v = .slice (some ⟨g, 0, none⟩) k c ∧ k ≤ c ∧ Gs 33 w lo (some ⟨g, 0, none⟩) k xs := by
  obtain ⟨⟨F, hF⟩, g, c, rfl⟩ := h
  obtain ⟨A, c', xs, e, hc, _, _, hg, _⟩ := hF.fin
  injection e with e1 e2 e3
  subst e1; subst e3
  exact ⟨g, c, xs, rfl, hc, hg⟩
theorem RwA.pick {lo : Nat} {w : World} {v : Value} {k : Nat} (h : RwA lo w v k) (Q : O) : ∃ F, Rw lo w v k F ∧ F k = Q := by
  obtain ⟨⟨F, hF⟩, _⟩ := h
  exact ⟨fun j => if j = k then Q else F j, hF.like fun j hj => by simp [show j ≠ k by omega], by simp⟩
theorem RwA.on {lo g : Nat} {w w' : World} {v : Value} {k : Nat} (h : RwA lo w v k) (o : On g w w') (hg : g < lo) : RwA lo w' v k := by
  obtain ⟨⟨F, hF⟩, hv⟩ := h
  exact ⟨⟨F, hF.on o hg⟩, hv⟩
/-- numbers that a call has drawn: a list in memory of its own -/
def PDr (n : Nat) (w : World) (e : Ending) (w' : World) : Prop := ∃ (g c : Nat) (xs : List Nat), e = .returned (.slice (some ⟨g, 0, none⟩) n c) ∧ n ≤ c ∧ Gs 33 w' w.heap.size (some ⟨g, 0, none⟩) n xs ∧ w.Since w.heap.size w'
set_option maxHeartbeats 4000000 in
set_option maxRecDepth 100000 in
theorem floats_any (B b K N : Nat) (w : World) (h : Src B b K w) (hK : K ≤ 100000) (hN : N ≤ 10000) :
    Calls Try.prog 26 #[.pointer (some ⟨b, 0, none⟩), .int .i64 (N : Int)] w fun e w' => ∃ (g c : Nat) (xs : List Nat), e = .returned (.slice (some ⟨g, 0, none⟩) N c) ∧ N ≤ c ∧ Gs 33 w' w.heap.size (some ⟨g, 0, none⟩) N xs ∧ Src B b (K + 2 + 12 * N) w' ∧ On b w w' := by
  have HH := Lib.hid h
  have hlt := h.lt
  clear h
  go_enter Try.func26, Try.ntmps26
  go_wp2_with fail
  generalize hW : World.alloc _ _ = W
  have R1 : Hid (RwA w.heap.size W (.slice (some ⟨w.heap.size, 0, none⟩) 0 0) 0) := Lib.hid (by rw [← hW]; exact ⟨⟨fun _ => none, Rw.start w _ (Nat.le_refl _) _⟩, _, _, rfl⟩)
  have O1 : Hid (On b w W) := Lib.hid (by rw [← hW]; exact (On.refl _ _).alloc (by omega) _)
  have S1 : Hid (Src B b K W) := Lib.hid (HH.out.on (by rw [← hW]; exact (World.Since.refl _ _).alloc (by omega) _))
  clear hW
  refine (one_any B b K 4 W S1.out (by omega) (by omega)).mono ?_
  rintro e w1 ⟨st, rfl, s2, o2⟩
  have S2 := Lib.hid s2; have O2 := Lib.hid (O1.out.trans o2); have R2 := Lib.hid (R1.out.on o2 hlt); clear s2 o2 R1 O1 S1
  cases st
  all_goals
    go_wp2_with fail
    go_loopw [1, 5] (fun i v wr => ∃ k : Nat, k ≤ N ∧ i = .int .i64 ((N : Int) - k) ∧ RwA w.heap.size wr v k ∧ Src B b (K + 2 + 12 * k) wr ∧ On b w wr) (fun i _ _ => (intOf i).toNat)
    case atStart => exact ⟨0, Nat.zero_le _, by simp, R2.out, S2.out, O2.out⟩
    case round =>
      obtain ⟨k, hk, rfl, hr, hs, ho⟩ := hrel
      have HR := Lib.hid hr; have HS := Lib.hid hs; have HO := Lib.hid ho
      clear hr hs ho
      by_cases hlt2 : k < N
      · have hd : decide (0 < (N : Int) - k) = true := decide_eq_true (by omega)
        go_wp2_with fail
        first
        | refine (plain_any B b (K + 2 + 12 * k) wr HS.out (by omega)).mono ?_
        | refine (float_any B b (K + 2 + 12 * k) wr HS.out (by omega)).mono ?_
        rintro e w3 ⟨q, Q, rfl, hq, s3, o3⟩
        have S3 : Hid (Src B b (K + 2 + 12 * (k + 1)) w3) := Lib.hid (s3.up (by omega))
        have O3 := Lib.hid (HO.out.trans o3); have R3 := Lib.hid (HR.out.on o3 hlt)
        clear s3 o3
        obtain ⟨F, hF, hFk⟩ := R3.out.pick Q
        have hlo : w.heap.size ≤ w3.heap.size := O3.out.1.size
        have HF := Lib.hid hF; clear hF
        have hz : Hid (Fv .f32 q (F k)) := by rw [hFk]; exact hq
        have hlt3 : b < w3.heap.size := by omega
        go_wp2_with (first | (at_builtin; refine wpList_app1 rfl (.tmp 20) (.tmp 23) rfl w.heap.size _ k _ rfl _ _ rfl (by simp [go_sem]) (by omega) (by simp; omega) hz (HF.out.alloc _) ?_; intro v' w4 hR4 hS4) | (at_builtin; refine wpList_app1 rfl (.tmp 15) (.tmp 18) rfl w.heap.size _ k _ rfl _ _ rfl (by simp [go_sem]) (by omega) (by simp; omega) hz (HF.out.alloc _) ?_; intro v' w4 hR4 hS4))
        have hs4 : w3.Since w.heap.size w4 := ((World.Since.refl _ _).alloc hlo _).trans hS4.out
        have HS4 := Lib.hid hs4; clear hs4
        go_roundw
        case rel => exact ⟨k + 1, by omega, by go_num, RwA.grown hR4.out, S3.out.on (since_mono HS4.out (by omega)), on_post O3.out HS4.out (Nat.le_refl _) hlt⟩
        case measure => simp [intOf]; omega
      · have hd : decide (0 < (N : Int) - k) = false := decide_eq_false (by omega)
        obtain rfl : k = N := by omega
        obtain ⟨g, cp, zs, rfl, hcp, hg⟩ := HR.out.end_
        have HG := Lib.hid hg; clear hg
        go_wp2
        go_ret
        exact ⟨g, cp, zs, rfl, hcp, HG.out, HS.out, HO.out⟩
end Go.Proofs.Ytflpackchlpedaa

/- Draws: what laws draw of their bytes. -/
set_option linter.unusedVariables false
set_option linter.unusedSimpArgs false
namespace Go.Proofs.Ytflpackchlpedaa
open Fl Go.RowKit
theorem source_any (A : Option Addr) (n c : Nat) (xs : List Int) (w : World) (h : Bs w w.heap.size A n xs) (hn : n ≤ 1048576) :
    Calls Try.prog 23 #[.slice A n c] w fun e w' => e = .returned (.pointer (some ⟨w.heap.size, 0, none⟩)) ∧ Src w.heap.size w.heap.size 0 w' ∧ w.Since w.heap.size w' := by
  have HH := Lib.hid h; clear h
  go_enter Try.func23, Try.ntmps23
  go_wp2
  go_ret
  refine ⟨rfl, ⟨A, n, c, xs, 0, 0, Go.Deep.blk_alloc_new _ _, HH.out.since ((World.Since.refl _ _).alloc (Nat.le_refl _) _) (Nat.le_refl _), Nat.le_refl _, hn, by omega, by omega⟩, (World.Since.refl _ _).alloc (Nat.le_refl _) _⟩
set_option maxHeartbeats 4000000 in
set_option maxRecDepth 100000 in
theorem numbers_any (A : Option Addr) (n c : Nat) (xs : List Int) (m : Nat) (w : World) (h : Bs w w.heap.size A n xs) (hn : n ≤ 1048576) (hm : m ≤ 9000) :
    Calls Try.prog 8 #[.slice A n c, .int .i64 (m : Int)] w (PDr m w) := by
  have HH := Lib.hid h; clear h
  go_enter Try.func8, Try.ntmps8
  go_wp2_with fail
  refine (source_any A n c xs w HH.out hn).mono ?_
  rintro e w1 ⟨rfl, s1, t1⟩
  have S1 := Lib.hid s1; have T1 := Lib.hid t1; clear s1 t1
  go_wp2_with fail
  refine (floats_any w.heap.size w.heap.size 0 m w1 S1.out (by omega) (by omega)).mono ?_
  rintro e w3 ⟨g, cp, zs, rfl, hp, hg, s3, o3⟩
  have hz := T1.out.size
  have G3 := Lib.hid (hg.less hz); have T3 := Lib.hid (T1.out.trans (o3.since (Nat.le_refl _))); clear hg s3 o3
  go_wp2
  go_ret
  exact ⟨g, cp, zs, rfl, hp, G3.out, T3.out⟩
theorem b10At_any (A : Option Addr) (n c : Nat) (xs : List Int) (k m : Int) (w : World) (h : Bs w w.heap.size A n xs) (hk : 0 ≤ k) (hk2 : k ≤ 1000000000) :
    Calls Try.prog 7 #[.slice A n c, .int .i64 k, .int .i64 m] w fun e w' => ∃ v : Int, e = .returned (.int .i64 v) ∧ 0 ≤ v ∧ (1 ≤ m → v < m) ∧ w.Since w.heap.size w' := by
  have HH := Lib.hid h; clear h
  obtain ⟨j, rfl⟩ := Int.eq_ofNat_of_zero_le hk
  by_cases h1 : m ≤ 1
  · have hd : decide (m ≤ 1) = true := decide_eq_true h1
    go_enter Try.func7, Try.ntmps7
    go_wp2
    go_ret
    exact ⟨0, rfl, by omega, fun _ => by omega, by (repeat (first | (with_reducible refine Fl.sinDrew ?_) | (with_reducible refine World.Since.drew ?_) | (with_reducible refine Fl.sinSet ?_ ?_; rotate_left) | (with_reducible refine Fl.sinAlloc ?_ ?_; rotate_left) | with_reducible exact World.Since.refl _ _ | with_reducible assumption | (with_reducible refine Fl.sinStep (by with_reducible assumption) ?_))); all_goals (first | omega | (simp; done) | (simp; omega) | (simp [go_sem]; done) | (simp [go_sem]; omega))⟩
  · have hd : decide (m ≤ 1) = false := decide_eq_false h1
    have hz : m ≠ 0 := by omega
    by_cases h2 : (j : Int) < (n : Int)
    · have hd2 : decide ((j : Int) < (n : Int)) = true := decide_eq_true h2
      obtain ⟨g, off, rfl, hg, hc⟩ := HH.out.2.2 (by omega)
      have hcell := hc j (by omega)
      have hv := HH.out.2.1 j
      clear hc
      go_enter Try.func7, Try.ntmps7
      go_wp2
      go_ret
      exact ⟨_, rfl, Int.emod_nonneg _ hz, fun _ => Int.emod_lt_of_pos _ (by omega), by (repeat (first | (with_reducible refine Fl.sinDrew ?_) | (with_reducible refine World.Since.drew ?_) | (with_reducible refine Fl.sinSet ?_ ?_; rotate_left) | (with_reducible refine Fl.sinAlloc ?_ ?_; rotate_left) | with_reducible exact World.Since.refl _ _ | with_reducible assumption | (with_reducible refine Fl.sinStep (by with_reducible assumption) ?_))); all_goals (first | omega | (simp; done) | (simp; omega) | (simp [go_sem]; done) | (simp [go_sem]; omega))⟩
    · have hd2 : decide ((j : Int) < (n : Int)) = false := decide_eq_false h2
      go_enter Try.func7, Try.ntmps7
      go_wp2
      go_ret
      exact ⟨_, rfl, Int.emod_nonneg _ hz, fun _ => Int.emod_lt_of_pos _ (by omega), by (repeat (first | (with_reducible refine Fl.sinDrew ?_) | (with_reducible refine World.Since.drew ?_) | (with_reducible refine Fl.sinSet ?_ ?_; rotate_left) | (with_reducible refine Fl.sinAlloc ?_ ?_; rotate_left) | with_reducible exact World.Since.refl _ _ | with_reducible assumption | (with_reducible refine Fl.sinStep (by with_reducible assumption) ?_))); all_goals (first | omega | (simp; done) | (simp; omega) | (simp [go_sem]; done) | (simp [go_sem]; omega))⟩
theorem b10Long_any (A B : Option Addr) (n c m d : Nat) (b : Bool) (w : World) (h : (decide ((1048576 : Int) < n) || decide ((1048576 : Int) < m)) = b) :
    Calls Try.prog 5 #[.slice A n c, .slice B m d] w fun e w' => e = .returned (.bool b) ∧ w.Since w.heap.size w' := by
  subst h
  cases h1 : decide ((1048576 : Int) < n)
  all_goals
    go_enter Try.func5, Try.ntmps5
    go_wp2
    go_ret
    exact ⟨ret_bool (by simp), by (repeat (first | (with_reducible refine Fl.sinDrew ?_) | (with_reducible refine World.Since.drew ?_) | (with_reducible refine Fl.sinSet ?_ ?_; rotate_left) | (with_reducible refine Fl.sinAlloc ?_ ?_; rotate_left) | with_reducible exact World.Since.refl _ _ | with_reducible assumption | (with_reducible refine Fl.sinStep (by with_reducible assumption) ?_))); all_goals (first | omega | (simp; done) | (simp; omega) | (simp [go_sem]; done) | (simp [go_sem]; omega))⟩
end Go.Proofs.Ytflpackchlpedaa

/- Taps that were drawn. -/
set_option linter.unusedVariables false
set_option linter.unusedSimpArgs false
namespace Go.Proofs.Ytflpackchlpedaa
open Fl Go.RowKit
/-- a list of taps of its own, each with a sample from 0 to 7 back -/
def PTp (w : World) (e : Ending) (w' : World) : Prop := ∃ (g cp : Nat) (L : List TapR), e = .returned (.slice (some ⟨g, 0, none⟩) L.length cp) ∧ L.length ≤ 4 ∧ L.length ≤ cp ∧ (∀ x ∈ L, 0 ≤ x.b ∧ x.b < 8 ∧ x.g < 4294967296) ∧ Rs TapR.cells 2 w' w'.heap.size (some ⟨g, 0, none⟩) L.length (fun j => L.getD j TapR.zero) ∧ w.Since w.heap.size w'
/-- a row of drawn taps -/
def TpA (lo : Nat) (w : World) (v : Value) (L : List TapR) : Prop := RwS TapR.cells 2 55 lo w v L ∧ (∀ x ∈ L, 0 ≤ x.b ∧ x.b < 8 ∧ x.g < 4294967296) ∧ v ≠ .slice none 0 0
set_option maxHeartbeats 8000000 in
set_option maxRecDepth 100000 in
theorem taps_any (A : Option Addr) (n c : Nat) (xs : List Int) (w : World) (h : Bs w w.heap.size A n xs) (hn : n ≤ 1048576) :
    Calls Try.prog 6 #[.slice A n c] w (PTp w) := by
  have HH := Lib.hid h; clear h
  obtain ⟨i0, hi, hzz⟩ := Option.map_eq_some_iff.1 Try.infoTap
  simp only [Prod.mk.injEq] at hzz
  obtain ⟨hz0, hz1, hz2⟩ := hzz
  have hz2' : i0.bytes ≤ 1024 := of_decide_eq_true hz2
  have HI := Lib.hid hi; have HZ0 := Lib.hid hz0; have HZ1 := Lib.hid hz1; have HZ2 := Lib.hid hz2'
  clear hi hz0 hz1 hz2 hz2'
  go_enter Try.func6, Try.ntmps6
  go_wp2_with fail
  refine (source_any A n c xs w HH.out hn).mono ?_
  rintro e w1 ⟨rfl, s1, t1⟩
  have S1 := Lib.hid s1; have T1 := Lib.hid t1; clear s1 t1
  go_wp2_with fail
  generalize hW : World.alloc _ _ = W
  have z1 := T1.out.size
  have R2 : Hid (TpA w1.heap.size W (.slice (some ⟨w1.heap.size, 0, none⟩) 0 0) []) := Lib.hid (by rw [← hW]; exact ⟨RwS.start _ w1 _ (Nat.le_refl _), (fun x hx => by cases hx), (fun h => by cases h)⟩)
  have S2 : Hid (Src w.heap.size w.heap.size 0 W) := Lib.hid (S1.out.on (by rw [← hW]; exact (World.Since.refl _ _).alloc (by have := S1.out.lt; omega) _))
  have O2 : Hid (On w.heap.size w1 W) := Lib.hid (by rw [← hW]; exact (On.refl _ _).alloc z1 _)
  have hl1 : w.heap.size < w1.heap.size := S1.out.lt
  clear hW
  refine (pick_any w.heap.size w.heap.size 0 5 W S2.out (by omega) (by omega)).mono ?_
  rintro e w2 ⟨v, rfl, v0, v1, s2, o2⟩
  have hv5 : v < 5 := v1 (by omega)
  obtain ⟨kk, rfl⟩ : ∃ kk : Nat, v = (kk : Int) := ⟨v.toNat, by omega⟩
  have hk4 : kk ≤ 4 := by omega
  have S3 : Hid (Src w.heap.size w.heap.size 2 w2) := Lib.hid s2
  have O3 : Hid (On w.heap.size w1 w2) := Lib.hid (O2.out.trans o2)
  have R3 : Hid (TpA w1.heap.size w2 (.slice (some ⟨w1.heap.size, 0, none⟩) 0 0) []) := Lib.hid ⟨R2.out.1.on o2 hl1, R2.out.2⟩
  clear v0 v1 hv5 s2 o2 S2 O2 R2
  go_wp2_with fail
  go_loopw [4, 5] (fun v i wr => ∃ (r : Nat) (L : List TapR), L.length + r = kk ∧ i = .int .i64 (r : Int) ∧ TpA w1.heap.size wr v L ∧ Src w.heap.size w.heap.size (2 + 20 * L.length) wr ∧ On w.heap.size w1 wr) (fun _ i _ => (intOf i).toNat)
  case atStart => exact ⟨kk, [], by simp, rfl, R3.out, S3.out, O3.out⟩
  case round =>
    obtain ⟨r, L, hrl, rfl, hr, hs, ho⟩ := hrel
    have HR := Lib.hid hr; have HS := Lib.hid hs; have HO := Lib.hid ho
    have HL := Lib.hid hrl
    clear hr hs ho hrl
    by_cases hlt2 : 0 < r
    · have r4 : r ≤ 4 := by have := HL.out; omega
      go_wp2_with fail
      refine (pick_any w.heap.size w.heap.size (2 + 20 * L.length) 8 wr HS.out (by have := HL.out; omega) (by omega)).mono ?_
      rintro e w3 ⟨u, rfl, u0, u1, s3, o3⟩
      have hu8 : u < 8 := u1 (by omega)
      have S4 := Lib.hid s3; have O4 := Lib.hid (HO.out.trans o3)
      have R4 : Hid (TpA w1.heap.size w3 _ L) := Lib.hid ⟨HR.out.1.on o3 hl1, HR.out.2⟩
      clear s3 o3 u1 HR HS HO
      go_wp2_with fail
      generalize hW : World.alloc w3 _ = W4
      obtain ⟨bx, hbx⟩ : ∃ q, Hid (q = w3.heap.size) := ⟨_, Lib.hid rfl⟩
      have K4 : Hid (W4.heap[bx]? = some (.cells #[.int .i64 u, .float .f32 0] 55 (0, 0))) := Lib.hid (by rw [← hW, hbx.out]; exact Go.Deep.blk_alloc_new _ _)
      have hs : w3.Since w3.heap.size W4 := by rw [← hW]; exact (World.Since.refl _ _).alloc (Nat.le_refl _) _
      have HS3 := Lib.hid hs
      have lw : Hid (w1.heap.size ≤ w3.heap.size) := Lib.hid O4.out.1.size
      have O5 : Hid (On w.heap.size w1 W4) := Lib.hid (O4.out.trans ⟨since_mono hs (by have := lw.out; omega), fun i hi _ => hs.block i hi⟩)
      have S5 : Hid (Src w.heap.size w.heap.size (2 + 20 * L.length + 2) W4) := Lib.hid (S4.out.on (since_mono hs (by have := lw.out; omega)))
      rw [← hbx.out]
      clear hW hs S4 O4
      refine (float_any w.heap.size w.heap.size (2 + 20 * L.length + 2) W4 S5.out (by have := HL.out; omega)).mono ?_
      rintro e w5 ⟨q, Q, rfl, hq, s5, o5⟩
      have hbw : bx < W4.heap.size := (Array.getElem?_eq_some_iff.1 K4.out).1
      have hbs : bx ≠ w.heap.size := by have := lw.out; have := hbx.out; omega
      have K5 : Hid (w5.heap[bx]? = some (.cells #[.int .i64 u, .float .f32 0] 55 (0, 0))) := Lib.hid ((o5.2 bx hbw hbs).trans K4.out)
      have O6 := Lib.hid (O5.out.trans o5); have S6 := Lib.hid s5
      have kp : Hid (∀ b, w1.heap.size ≤ b → b < w3.heap.size → (w5.setCell ⟨bx, 1, none⟩ (.float .f32 q)).heap[b]? = w3.heap[b]?) := Lib.hid (fun b h1 h2 => by
        rw [Go.Deep.blk_setCell_other _ _ _ _ (by show b ≠ bx; have := hbx.out; omega), o5.2 b (Nat.lt_of_lt_of_le h2 HS3.out.size) (by omega)]
        exact HS3.out.block b h2)
      have R6 : Hid (TpA w1.heap.size (w5.setCell ⟨bx, 1, none⟩ (.float .f32 q)) _ L) := Lib.hid ⟨R4.out.1.keep kp.out, R4.out.2⟩
      have c0 : w5.cell? ⟨bx, 0, none⟩ = some (.int .i64 u) := by simp [World.cell?, K5.out]
      have c1 : w5.cell? ⟨bx, 1, none⟩ = some (.float .f32 0) := by simp [World.cell?, K5.out]
      have f1 : w5.frozen? ⟨bx, 1, none⟩ = false := by simp [World.frozen?, K5.out]
      have hb5 : bx < w5.heap.size := (Array.getElem?_eq_some_iff.1 K5.out).1
      have HQ := Lib.hid hq
      have lx : Hid (w1.heap.size ≤ bx) := Lib.hid (by rw [hbx.out]; exact lw.out)
      have sz5 : Hid (w1.heap.size ≤ w5.heap.size) := Lib.hid (by have := lx.out; omega)
      clear s5 o5 hq K4 O5 S5 kp R4 hbw
      go_wp2_with (at_builtin; go_loud (refine wpList_appS (cells := TapR.cells) (s := 2) rfl (.tmp 22) (.tmp 24) 24 55 rfl w1.heap.size i0 _ i0.bytes Try.underlying24 HI.out HZ0.out HZ1.out rfl rfl (by decide) (by have := HZ2.out; omega) _ L ⟨u, q⟩ rfl _ rfl rfl (by intro j y hj; rcases j with _ | _ | j <;> simp [TapR.cells] at hj <;> subst hj <;> simp [go_sem]) (by intro y hy; simp [TapR.cells] at hy; rcases hy with rfl | rfl <;> rfl) (by have := HL.out; omega) (by have := sz5.out; simp; omega) (R6.out.1.since ((World.Since.refl _ _).alloc (Nat.le_refl _) _)) ?_); intro v' w6 hR7 hN7 hS7)
      have HS7 : Hid (w5.Since w1.heap.size w6) := Lib.hid ((((World.Since.refl _ _).setCell (a := ⟨bx, 1, none⟩) lx.out _).alloc (by have := sz5.out; simp; omega) _).trans hS7.out)
      have hlen : (L ++ [(⟨u, q⟩ : TapR)]).length = L.length + 1 := by simp
      refine ⟨⟨r - 1, L ++ [⟨u, q⟩], by rw [hlen]; have := HL.out; omega, by rw [show ((r - 1 : Nat) : Int) = (r : Int) - 1 by omega], ⟨hR7.out, fun y hy => ?_, hN7.out⟩, ?_, on_post O6.out HS7.out (Nat.le_refl _) hl1⟩, by simp [intOf]; omega⟩
      · rcases List.mem_append.1 hy with h1 | h1
        · exact R6.out.2.1 y h1
        · have e1 : y = ⟨u, q⟩ := by simpa using h1
          subst e1
          exact ⟨u0, hu8, HQ.out.out.1⟩
      · rw [hlen]
        exact (S6.out.on (since_mono HS7.out (by omega))).up (by omega)
    · obtain rfl : r = 0 := by omega
      have hL4 : L.length ≤ 4 := by have := HL.out; omega
      rcases HR.out.1.done (by decide) TapR.zero (fun _ _ => rfl) with ⟨h1, _⟩ | ⟨g, cap, rfl, hc, _, _, hrs⟩
      · exact absurd h1 HR.out.2.2
      · have RS := Lib.hid hrs
        clear hrs
        have T3 : Hid (w.Since w.heap.size wr) := Lib.hid (T1.out.trans (HO.out.since (Nat.le_refl _)))
        go_wp2
        go_ret
        exact ⟨g, cap, L, rfl, hL4, hc, HR.out.2.1, RS.out, T3.out⟩
end Go.Proofs.Ytflpackchlpedaa

/- Moving delays: of the model. -/
set_option linter.unusedVariables false
set_option linter.unusedSimpArgs false
namespace Go.Proofs.Ytflpackchlpedaa
open Fl Go.RowKit
/-- the numbers of a line of n, and the samples behind it -/
def chS (n : Nat) (xs ys : List Nat) (j : Nat) : O := if j < n then ab .f32 (wd xs j) else ab .f32 (wd ys (j - n))
def chD (ts : List Int) (t a k : Nat) : Nat := (wi ts ((a + k) % t)).toNat
def chY (ts : List Int) (t a n : Nat) (xs ys : List Nat) (mx k : Nat) : O := ad (ab .f32 (wd ys k)) (mu (ab .f32 mx) (chS n xs ys (k + n - chD ts t a k)))
/-- the first k numbers of a table are in a line's limits -/
def chTab (ts : List Int) (n k : Nat) : Prop := ∀ j, j < k → 1 ≤ wi ts j ∧ wi ts j ≤ n
theorem chS_old {n : Nat} {xs ys : List Nat} {j : Nat} (h : j < n) : chS n xs ys j = ab .f32 (wd xs j) := by unfold chS; rw [if_pos h]
theorem chS_new (n : Nat) (xs ys : List Nat) (k : Nat) : chS n xs ys (k + n) = ab .f32 (wd ys k) := by unfold chS; rw [if_neg (by omega)]; congr 2; omega
theorem took_are {n k : Nat} {zs : List Nat} {S : Nat → O} {x : Nat} (hl : zs.length = n) (h : Are' n zs fun i => S (k + i)) (hS : S (k + n) = ab .f32 x) : Are' n (zs.drop 1 ++ [x]) fun i => S (k + 1 + i) := fun i hi => by
  show ab .f32 (wd (zs.drop 1 ++ [x]) i) = S (k + 1 + i)
  rw [wd_app, List.length_drop, hl]
  by_cases e : i < n - 1
  · rw [if_pos e, wd_drop, h (1 + i) (by omega)]
    show S (k + (1 + i)) = _
    rw [Nat.add_assoc]
  · rw [if_neg e, show i - (n - 1) = 0 by omega, show k + 1 + i = k + n by omega, hS]; rfl
end Go.Proofs.Ytflpackchlpedaa

/- Moving delays: of the program. -/
set_option linter.unusedVariables false
set_option linter.unusedSimpArgs false
namespace Go.Proofs.Ytflpackchlpedaa
open Fl Go.RowKit
/-- blocks from g on may change, but those from lo on not -/
def Mid (g lo : Nat) (w w' : World) : Prop := w.Since g w' ∧ ∀ b, lo ≤ b → b < w.heap.size → w'.heap[b]? = w.heap[b]?
theorem GCells.mid {w w' : World} {g gr lo n : Nat} {f : Nat → Value} (h : GCells w g n f) (o : Mid gr lo w w') (hl : lo ≤ g) : GCells w' g n f := by
  have hlt := h.lt
  obtain ⟨cs, hb, hc⟩ := h
  exact ⟨cs, (o.2 g hl hlt).trans hb, hc⟩
set_option maxHeartbeats 2000000 in
set_option maxRecDepth 100000 in
theorem results_mid (A : Option Addr) (n c : Nat) (xs : List Nat) (F : FuncId) (caps : Array Value) (gr : Nat) (I : Nat → World → Prop) (Y : Nat → Option Nat) (w : World) (h : Fs w gr A n xs) (hgr : gr < w.heap.size) (hn : n ≤ 256)
    (hent : ∀ args w, (callFunc F args).run Try.prog w = .ok (.enter F args) w)
    (hI : ∀ k W W', I k W → w.heap.size ≤ W.heap.size → W.heap.size ≤ W'.heap.size → (∀ b, b < w.heap.size → W'.heap[b]? = W.heap[b]?) → I k W')
    (hstep : ∀ k q W, k < n → q = wd xs k → I k W → w.heap.size ≤ W.heap.size → Calls Try.prog F (#[.float .f32 q] ++ caps) W fun e W' => ∃ r, e = .returned (.float .f32 r) ∧ Hid (Fv .f32 r (Y k)) ∧ I (k + 1) W' ∧ Mid gr w.heap.size W W')
    (h0 : I 0 w) :
    Calls Try.prog 29 #[.slice A n c, .func (.func F) #[] caps] w fun e w' => ∃ ys, e = .returned (.slice (some ⟨w.heap.size, 0, none⟩) n n) ∧ Gs 33 w' w.heap.size (some ⟨w.heap.size, 0, none⟩) n ys ∧ Are' n ys Y ∧ I n w' ∧ w.Since gr w' := by
  have H := Lib.hid h
  have hmk := fun W => run_make_row' (P := Try.prog) 27 33 (.float .f32 0) 4 Try.underlying27 Try.infoF rfl .i64 .i64 n (by omega) (by omega) W
  have HI := Lib.hid hI; have HST := Lib.hid hstep; have H0 := Lib.hid h0; have HGR : gr < w.heap.size := hgr
  clear h hI hstep h0
  go_enter Try.func29, Try.ntmps29
  go_wp2
  go_loopw [13] (fun i wr => ∃ (k : Nat) (r : Nat → Nat), k ≤ n ∧ i = .int .i64 k ∧ GCells wr w.heap.size n (partial_ k r) ∧ (∀ j, j < k → Hid (Fv .f32 (r j) (Y j))) ∧ I k wr ∧ w.Since gr wr) (fun i _ => n - (intOf i).toNat)
  case atStart =>
    have hr := (World.rowIs_made w (.float .f32 0) n 33)
    obtain ⟨cs, hb, _, hc⟩ := hr
    exact ⟨0, fun _ => 0, Nat.zero_le _, rfl, ⟨cs, hb, fun j hj => hc j hj⟩, fun j hj => by omega, HI.out 0 _ _ H0.out (Nat.le_refl _) (by simp) (fun b hb => ((World.Since.refl w.heap.size w).alloc (Nat.le_refl _) _).block b hb), (World.Since.refl gr w).alloc (by omega) _⟩
  case round =>
    obtain ⟨k, r, hk, rfl, hcs, hr, hi, hon⟩ := hrel
    have HC := Lib.hid hcs; have HR := Lib.hid hr; have HIK := Lib.hid hi; have HON := Lib.hid hon
    have hsz : w.heap.size < wr.heap.size := hcs.lt
    clear hcs hr hi hon
    by_cases hlt : k < n
    · obtain ⟨g, off, rfl, hg, hc⟩ := H.out.2.2 (by omega)
      have hcell : wr.cell? ⟨g, off + k, none⟩ = some (.float .f32 (wd xs k)) := (HON.out.cell (a := ⟨g, off + k, none⟩) hg).trans (hc k hlt)
      clear hc
      go_wp2_with fail
      refine (HST.out k _ wr hlt rfl HIK.out (by omega)).mono ?_
      rintro e w2 ⟨r1, rfl, hr1, hi1, ho1⟩
      have HC2 := Lib.hid (HC.out.mid ho1 (Nat.le_refl _))
      have hc2 : w2.cell? ⟨w.heap.size, k, none⟩ = some (partial_ k r k) := HC2.out.cell hlt
      have hf2 : w2.frozen? ⟨w.heap.size, k, none⟩ = false := HC2.out.free _
      have HR1 := Lib.hid hr1; have HI1 := Lib.hid hi1; have HO1 := Lib.hid ho1
      clear hr1 hi1 ho1
      go_wp2
      go_roundw
      case rel =>
        refine ⟨k + 1, fun j => if j = k then r1 else r j, by omega, by go_num, (HC2.out.set k _).congr (fun j hj => ?_), fun j hj => ?_, HI.out (k + 1) _ _ HI1.out (Nat.le_trans (by omega) HO1.out.1.size) (by rw [Go.Deep.nblk_setCell]; exact Nat.le_refl _) (fun b hb => Go.Deep.blk_setCell_other _ _ _ _ (show b ≠ w.heap.size by omega)), (HON.out.trans HO1.out.1).setCell (a := ⟨w.heap.size, k, none⟩) (by show gr ≤ w.heap.size; omega) _⟩
        · unfold partial_
          dsimp only
          by_cases e : j = k
          · rw [if_pos e, if_pos (by omega), if_pos e]
          · rw [if_neg e, if_neg e]
            by_cases e2 : j < k
            · rw [if_pos e2, if_pos (by omega)]
            · rw [if_neg e2, if_neg (by omega)]
        · show Hid (Fv .f32 (if j = k then r1 else r j) (Y j))
          by_cases e : j = k
          · subst e; rw [if_pos rfl]; exact HR1
          · rw [if_neg e]; exact HR.out j (by omega)
      case measure => simp [intOf]; omega
    · obtain rfl : k = n := by omega
      go_wp2
      go_ret
      refine ⟨lst k r, rfl, ⟨lst_len _ _, fun y hy => ?_, fun _ => ?_⟩, fun i hi => by rw [lst_wd hi]; exact (HR.out i hi).out.2, HIK.out, HON.out⟩
      · obtain ⟨i, hi, rfl⟩ := List.mem_map.1 hy
        exact (HR.out i (List.mem_range.1 hi)).out.1
      · obtain ⟨cs, hb, hc⟩ := HC.out
        refine ⟨_, cs, rfl, Nat.le_refl _, hb, fun j hj => ?_⟩
        rw [hc j hj]; unfold partial_ fv; rw [if_pos hj, lst_wd hj]

theorem tabClos_b (v : Int) (b n : Nat) (bb : Bool) (w : World) (hc : w.cell? ⟨b, 0, none⟩ = some (.int .i64 (n : Nat))) (h : (decide (1 ≤ v) && decide (v ≤ (n : Int))) = bb) : Calls Try.prog 62 #[.int .i64 v, .pointer (some ⟨b, 0, none⟩)] w fun e w' => e = .returned (.bool bb) ∧ w = w' := by
  subst h
  cases h1 : decide ((1 : Int) ≤ v)
  · go_enter Try.func62, Try.ntmps62
    go_wp2
    go_ret
    exact ⟨rfl, rfl⟩
  · go_enter Try.func62, Try.ntmps62
    go_wp2
    go_ret
    exact ⟨rfl, rfl⟩
set_option maxHeartbeats 2000000 in
set_option maxRecDepth 100000 in
theorem allTab_any (b0 t : Nat) (ts : List Int) (b n : Nat) (r : Bool) (w : World) (h : Is w w.heap.size (some ⟨b0, 0, none⟩) t ts) (ht : t ≤ 1048576) (hc : w.cell? ⟨b, 0, none⟩ = some (.int .i64 (n : Nat))) (hr : r = true ↔ chTab ts n t) :
    Calls Try.prog 61 #[.slice (some ⟨b0, 0, none⟩) t t, .func (.func 62) #[] #[.pointer (some ⟨b, 0, none⟩)]] w fun e w' => e = .returned (.bool r) ∧ w = w' := by
  have HA := Lib.hid h; have HR := Lib.hid hr; have HC := Lib.hid hc
  clear h hr hc
  go_enter Try.func61, Try.ntmps61
  go_wp2
  go_loopw [9] (fun i wr => ∃ k : Nat, k ≤ t ∧ i = .int .i64 (k : Nat) ∧ chTab ts n k ∧ w = wr) (fun i _ => t - (intOf i).toNat)
  case atStart => exact ⟨0, Nat.zero_le _, rfl, (fun j hj => by omega), rfl⟩
  case round =>
    obtain ⟨k, hk, rfl, hz, rfl⟩ := hrel
    have HZ := Lib.hid hz
    clear hz
    by_cases hlt : k < t
    · obtain ⟨g, off, e1, hg, hc⟩ := HA.out.2 (by omega)
      injection e1 with e1; injection e1 with e1 e2 _; subst e1; subst e2
      have c0 := hc k hlt
      simp only [Nat.zero_add, iv] at c0
      clear hc
      cases ho : decide ((1 : Int) ≤ wi ts k) && decide (wi ts k ≤ (n : Int))
      · have h6 : r = false := by
          cases h6 : r
          · rfl
          · have h7 := HR.out.1 h6 k hlt
            rw [decide_eq_true h7.1, decide_eq_true h7.2] at ho; cases ho
        subst h6
        go_wp2_with fail
        refine (tabClos_b _ b n false _ HC.out ho).mono ?_; rintro e w2 ⟨rfl, rfl⟩
        go_wp2
        go_ret
        exact ⟨rfl, rfl⟩
      · have HO := Lib.hid ho
        go_wp2_with fail
        refine (tabClos_b _ b n true _ HC.out ho).mono ?_; rintro e w2 ⟨rfl, rfl⟩
        go_wp2
        go_roundw
        case rel =>
          refine ⟨k + 1, by omega, by go_num, fun j hj => ?_, trivial⟩
          by_cases e : j = k
          · subst e
            have h8 := HO.out
            rw [Bool.and_eq_true] at h8
            exact ⟨of_decide_eq_true h8.1, of_decide_eq_true h8.2⟩
          · exact HZ.out j (by omega)
        case measure => simp [intOf]; omega
    · obtain rfl : k = t := by omega
      have h5 := HR.out.2 HZ.out
      subst h5
      clear HR
      go_wp2
      go_ret
      exact ⟨rfl, rfl⟩
theorem isTab_b (b0 t : Nat) (ts : List Int) (n : Nat) (r : Bool) (w : World) (h : Is w w.heap.size (some ⟨b0, 0, none⟩) t ts) (ht : t ≤ 1048576) (hr : r = true ↔ (1 ≤ t ∧ t ≤ 64) ∧ chTab ts n t) :
    Calls Try.prog 38 #[.slice (some ⟨b0, 0, none⟩) t t, .int .i64 (n : Nat)] w fun e w' => e = .returned (.bool r) ∧ w.Since w.heap.size w' := by
  have HA := Lib.hid h; have HR := Lib.hid hr
  have hc : Hid ((w.alloc (.cells #[.int .i64 (n : Nat)] 3)).cell? ⟨w.heap.size, 0, none⟩ = some (.int .i64 (n : Nat))) := Lib.hid (by simp [go_sem])
  have HS : Hid (w.Since w.heap.size (w.alloc (.cells #[.int .i64 (n : Nat)] 3))) := Lib.hid ((World.Since.refl _ _).alloc (Nat.le_refl _) _)
  clear h hr
  by_cases h1 : 1 ≤ t
  · by_cases h2 : t ≤ 64
    · have hb1 : decide ((1 : Int) ≤ (t : Int)) = true := decide_eq_true (by omega)
      have hb2 : decide ((t : Int) ≤ 64) = true := decide_eq_true (by omega)
      have HR2 : Hid (r = true ↔ chTab ts n t) := Lib.hid (HR.out.trans ⟨fun h => h.2, fun h => ⟨⟨h1, h2⟩, h⟩⟩)
      clear HR
      go_enter Try.func38, Try.ntmps38
      go_wp2_with (first | (go_at_call 61; go_loud (refine (allTab_any b0 t ts w.heap.size n r _ (HA.out.now HS.out) ht hc.out HR2.out).mono ?_); rintro e w2 ⟨rfl, rfl⟩))
      go_ret
      exact ⟨rfl, HS.out⟩
    · have h6 : r = false := by
        cases h6 : r
        · rfl
        · exact absurd (HR.out.1 h6).1.2 h2
      subst h6
      have hb2 : decide ((t : Int) ≤ 64) = false := decide_eq_false (by omega)
      clear HR
      go_enter Try.func38, Try.ntmps38
      go_wp2
      go_ret
      exact ⟨rfl, by (repeat (first | (with_reducible refine Fl.sinDrew ?_) | (with_reducible refine World.Since.drew ?_) | (with_reducible refine Fl.sinSet ?_ ?_; rotate_left) | (with_reducible refine Fl.sinAlloc ?_ ?_; rotate_left) | with_reducible exact World.Since.refl _ _ | with_reducible assumption | (with_reducible refine Fl.sinStep (by with_reducible assumption) ?_))); all_goals (first | omega | (simp; done) | (simp; omega) | (simp [go_sem]; done) | (simp [go_sem]; omega))⟩
  · have h6 : r = false := by
      cases h6 : r
      · rfl
      · exact absurd (HR.out.1 h6).1.1 h1
    subst h6
    have hb2 : decide ((1 : Int) ≤ (t : Int)) = false := decide_eq_false (by omega)
    clear HR
    go_enter Try.func38, Try.ntmps38
    go_wp2
    go_ret
    exact ⟨rfl, by (repeat (first | (with_reducible refine Fl.sinDrew ?_) | (with_reducible refine World.Since.drew ?_) | (with_reducible refine Fl.sinSet ?_ ?_; rotate_left) | (with_reducible refine Fl.sinAlloc ?_ ?_; rotate_left) | with_reducible exact World.Since.refl _ _ | with_reducible assumption | (with_reducible refine Fl.sinStep (by with_reducible assumption) ?_))); all_goals (first | omega | (simp; done) | (simp; omega) | (simp [go_sem]; done) | (simp [go_sem]; omega))⟩
end Go.Proofs.Ytflpackchlpedaa

/- Moving delays: of the program. -/
set_option linter.unusedVariables false
set_option linter.unusedSimpArgs false
namespace Go.Proofs.Ytflpackchlpedaa
open Fl Go.RowKit
/-- what stands when k samples have gone through a line -/
def ChI (b0 t : Nat) (ts : List Int) (a n : Nat) (S : Nat → O) (mx g br bt bp bm B k : Nat) (W : World) : Prop :=
  ∃ f, RingAt W g n (k % n) f ∧ (∀ j, j < n → ab .f32 (f j) = S (Ln.ix n k j)) ∧ W.cell? ⟨br, 0, none⟩ = some (.pointer (some ⟨g, 0, none⟩)) ∧ W.cell? ⟨bt, 0, none⟩ = some (.slice (some ⟨b0, 0, none⟩) t t) ∧ GF W bp 2 1 (fun _ => .int .i64 ((a + k : Nat) : Int)) ∧ W.cell? ⟨bm, 0, none⟩ = some (.float .f32 mx) ∧ Is W B (some ⟨b0, 0, none⟩) t ts
set_option maxHeartbeats 4000000 in
set_option maxRecDepth 100000 in
theorem beforeN_any (g n o d : Nat) (f : Nat → Nat) (w : World) (h : RingAt w g n o f) (hn : n ≤ 64) (ho : o < n) (hd0 : 0 < d) (hd : d ≤ n) :
    Calls Try.prog 40 #[.pointer (some ⟨g, 0, none⟩), .int .i64 (d : Nat)] w fun e w' => e = .returned (.float .f32 (f ((o + n - d) % n))) ∧ ∃ m, w' = w.drewN m := by
  obtain ⟨j, hj⟩ : ∃ j, j = (o + n - d) % n := ⟨_, rfl⟩
  have hj64 : j < 64 := by have := Nat.mod_lt (o + n - d) (show 0 < n by omega); omega
  have hI : ((o : Int) + (n : Int) - (d : Int)) % (n : Int) = (j : Int) := by
    rw [hj, Int.natCast_emod, show ((o + n - d : Nat) : Int) = (o : Int) + (n : Int) - (d : Int) by omega]
  rw [← hj]
  have h1 := h.num hj64
  have h2 := h.old
  have h3 := h.len
  have b0 : (0 : Int) ≤ (o : Int) + (n : Int) - (d : Int) := by omega
  have b1 : (0 : Int) ≤ j := by omega
  have b2 : (j : Int) < 64 := by omega
  have b3 : (0 : Int) < n := by omega
  clear h hj
  go_enter Try.func40, Try.ntmps40
  go_wp2
  go_quiet (fail)
  go_wp2
  go_ret
  exact ⟨rfl, _, rfl⟩
set_option maxHeartbeats 4000000 in
set_option maxRecDepth 100000 in
theorem closChorus_any (b0 t : Nat) (ts : List Int) (a n : Nat) (S : Nat → O) (mx g br bt bp bm B k q : Nat) (w : World) (h : ChI b0 t ts a n S mx g br bt bp bm B k w) (hk : k ≤ 256) (ha : a ≤ 1000000000000000) (ht : 1 ≤ t ∧ t ≤ 64) (hn : 1 ≤ n ∧ n ≤ 64) (htab : chTab ts n t) (hmx : mx < 4294967296) (hq : q < 4294967296) (hS : S (k + n) = ab .f32 q)
    (l1 : br < w.heap.size) (l2 : bt < w.heap.size) (l4 : bm < w.heap.size) (d1 : br ≠ g) (d2 : bt ≠ g) (d4 : bm ≠ g) (d3 : bp ≠ g) (e1 : br ≠ bp) (e2 : bt ≠ bp) (e4 : bm ≠ bp) (lo B0 : Nat) (hB : B ≤ B0) (hg : B0 ≤ g ∧ g < lo) (hp : B0 ≤ bp ∧ bp < lo) :
    Calls Try.prog 39 #[.float .f32 q, .pointer (some ⟨br, 0, none⟩), .pointer (some ⟨bt, 0, none⟩), .pointer (some ⟨bp, 0, none⟩), .pointer (some ⟨bm, 0, none⟩)] w fun e w' => ∃ r, e = .returned (.float .f32 r) ∧ Hid (Fv .f32 r (ad (ab .f32 q) (mu (ab .f32 mx) (S (k + n - chD ts t a k))))) ∧ ChI b0 t ts a n S mx g br bt bp bm B (k + 1) w' ∧ Mid B0 lo w w' := by
  obtain ⟨f, hr, hf, hc1, hc2, hgp, hc4, his⟩ := h
  have hgl := hr.lt
  have hpl := hgp.lt
  obtain ⟨p, hp0⟩ : ∃ p, p = (a + k) % t := ⟨_, rfl⟩
  have hpt : p < t := by rw [hp0]; exact Nat.mod_lt _ (by omega)
  obtain ⟨g0, o0, e0, hg0, hcc⟩ := his.2 (by omega)
  injection e0 with e0; injection e0 with e0 e5 _; subst e0; subst e5
  have c5 := hcc p hpt
  simp only [Nat.zero_add, iv] at c5
  obtain ⟨d, hd, hd1, hdn⟩ : ∃ d : Nat, wi ts p = (d : Int) ∧ 1 ≤ d ∧ d ≤ n := ⟨(wi ts p).toNat, by have := htab p hpt; omega, by have := htab p hpt; omega, by have := htab p hpt; omega⟩
  rw [hd] at c5
  have hD : chD ts t a k = d := by unfold chD; rw [← hp0, hd]; rfl
  rw [hD]
  have hI : (((a + k : Nat) : Int)) % (t : Int) = (p : Int) := by rw [hp0, Int.natCast_emod]
  have hot : k % n < n := Nat.mod_lt _ (by omega)
  have hold : Hid (Fv .f32 (f ((k % n + n - d) % n)) (S (k + n - d))) := Lib.hid ⟨hr.small _ (Nat.lt_of_lt_of_le (Nat.mod_lt _ (by omega)) hn.2), by
    rw [hf _ (Nat.mod_lt _ (by omega)), show k % n + n - d = k % n + (n - d) by omega, Ln.ix_at (by omega)]
    congr 1; omega⟩
  have HB := Lib.hid (fun N => beforeN_any g n (k % n) d f (w.drewN N) (hr.drewN N) hn.2 hot hd1 hdn)
  have HQ : Hid (Fv .f32 q (ab .f32 q)) := Lib.hid ⟨hq, rfl⟩
  have HMX : Hid (Fv .f32 mx (ab .f32 mx)) := Lib.hid ⟨hmx, rfl⟩
  have c3 := hgp.cell (j := 0) (by decide)
  have f3 := hgp.free 0
  have HR := Lib.hid hr; have HF := Lib.hid hf; have HG := Lib.hid hgp; have HIS := Lib.hid his; have HSS := Lib.hid hS
  have b1 : (0 : Int) ≤ ((a + k : Nat) : Int) := by omega
  have b2 : (0 : Int) < (t : Int) := by omega
  have b4 : ((a + k : Nat) : Int) ≤ 1000000000000256 := by omega
  obtain ⟨ak, hak⟩ : ∃ ak, ak = a + k := ⟨_, rfl⟩
  rw [← hak] at c3 hI b1 b4
  have HAK := Lib.hid hak
  clear hak
  clear hr hf hgp his hS hcc hd hD hp0 htab
  go_enter Try.func39, Try.ntmps39
  go_wp2_with fail
  go_quiet (first | (go_at_call 40; refine Calls.quiet_of (HB.out _)))
  have R1 : Hid (RingAt ((w.setCell ⟨bp, 0, none⟩ (.int .i64 ((ak : Nat) + 1))).drewN nq) g n (k % n) f) := Lib.hid ((HR.out.of (Go.Deep.blk_setCell_other _ _ _ _ (by show g ≠ bp; omega))).drewN nq)
  have S1 : Hid (w.Since B0 ((w.setCell ⟨bp, 0, none⟩ (.int .i64 ((ak : Nat) + 1))).drewN nq)) := Lib.hid (since_drewN ((World.Since.refl _ _).setCell (a := ⟨bp, 0, none⟩) hp.1 _) nq)
  have K1 : Hid (∀ b, b ≠ bp → ((w.setCell ⟨bp, 0, none⟩ (.int .i64 ((ak : Nat) + 1))).drewN nq).heap[b]? = w.heap[b]?) := Lib.hid (fun b hb => Go.Deep.blk_setCell_other w _ _ _ (by show b ≠ bp; exact hb))
  have G1 : Hid (GF ((w.setCell ⟨bp, 0, none⟩ (.int .i64 ((ak : Nat) + 1))).drewN nq) bp 2 1 fun _ => .int .i64 ((a + (k + 1) : Nat) : Int)) := Lib.hid (GF.congr (w := (w.setCell ⟨bp, 0, none⟩ (.int .i64 ((ak : Nat) + 1))).drewN nq) (f := fun j => if j = 0 then .int .i64 ((ak : Nat) + 1) else .int .i64 ((a + k : Nat) : Int)) (GF.set HG.out 0 _) fun j hj => by
    obtain rfl : j = 0 := by omega
    rw [if_pos rfl, HAK.out]; rfl)
  have z1 : Hid (((w.setCell ⟨bp, 0, none⟩ (.int .i64 ((ak : Nat) + 1))).drewN nq).heap.size = w.heap.size) := Lib.hid (by show (w.setCell _ _).heap.size = _; rw [Go.Deep.nblk_setCell])
  have P1 := Lib.hid hc1; have P2 := Lib.hid hc2; have P4 := Lib.hid hc4
  clear hc2 hc4 c5 hI
  have c1' : ((w.setCell ⟨bp, 0, none⟩ (.int .i64 ((ak : Nat) + 1))).drewN nq).cell? ⟨br, 0, none⟩ = some (.pointer (some ⟨g, 0, none⟩)) := (cell_of_block (K1.out br e1) 0).trans P1.out
  go_wp2_with fail
  clear c1' c3 f3 hc1
  obtain ⟨V, hV⟩ : ∃ V, V = (w.setCell ⟨bp, 0, none⟩ (.int .i64 ((ak : Nat) + 1))).drewN nq := ⟨_, rfl⟩
  rw [← hV] at R1 S1 K1 G1 z1 ⊢
  clear hV
  go_at_call 32
  refine (take_any g n (k % n) q f V R1.out hot hn.2 hq).mono ?_
  rintro e w2 ⟨rfl, hr2, ho⟩
  have R2 := Lib.hid hr2; have O2 := Lib.hid ho
  have BB : Hid (∀ b, b < w.heap.size → b ≠ bp → b ≠ g → w2.heap[b]? = w.heap[b]?) := Lib.hid (fun b h1 h2 h3 => (ho.2 b (by rw [z1.out]; exact h1) h3).trans (K1.out b h2))
  have m5 := (cell_of_block (BB.out bm l4 e4 d4) 0).trans P4.out
  clear hr2 ho
  go_wp2_with (with_reducible_and_instances refine Lo.wpList_fo _ rfl _ _ _ _ _ rfl _ _ _ _ _ rfl rfl rfl (by assumption) (by assumption) ?_; intro rr nn hrr)
  go_ret
  refine ⟨_, rfl, hrr, ⟨_, by rw [← Ln.mod_step (by omega)]; exact R2.out.drewN _, fun j hj => ?_, (cell_of_block (BB.out br l1 e1 d1) 0).trans P1.out, (cell_of_block (BB.out bt l2 e2 d2) 0).trans P2.out, G1.out.of (O2.out.2 bp (by rw [z1.out]; exact hpl) (by omega)), m5, HIS.out.keep fun g' o hg' => cell_of_block (BB.out g' (by omega) (by omega) (by omega)) o⟩, since_drewN (S1.out.trans (O2.out.since hg.1)) _, fun b h1 h2 => BB.out b h2 (by omega) (by omega)⟩
  rw [Ln.ix_step hj]
  by_cases e : j = k % n
  · rw [if_pos e, if_pos e, HSS.out]
  · rw [if_neg e, if_neg e]; exact HF.out j hj
end Go.Proofs.Ytflpackchlpedaa

/- RunChorus of the program, for lists wherever they lie. -/
set_option linter.unusedVariables false
set_option linter.unusedSimpArgs false
namespace Go.Proofs.Ytflpackchlpedaa
open Fl Go.RowKit
set_option maxHeartbeats 8000000 in
set_option maxRecDepth 100000 in
theorem implRunChorus_any (b0 t : Nat) (ts : List Int) (mx : Nat) (A2 : Option Addr) (n c2 : Nat) (xs : List Nat) (a : Nat) (A4 : Option Addr) (m c4 : Nat) (ys : List Nat) (w : World) (h0 : Is w w.heap.size (some ⟨b0, 0, none⟩) t ts) (h2 : Fs w w.heap.size A2 n xs) (h4 : Fs w w.heap.size A4 m ys)
    (ht : okLen (t : Int) = true) (hn : okLen (n : Int) = true) (hmx : mx < 4294967296) (ha : a ≤ 1000000000000000) (hm : m ≤ 256) (htab : chTab ts n t) :
    Calls Try.prog 13 #[.slice (some ⟨b0, 0, none⟩) t t, .float .f32 mx, .slice A2 n c2, .int .i64 (a : Nat), .slice A4 m c4] w (PTT m (fun k => chY ts t a n xs ys mx k) n (fun i => chS n xs ys (m + i)) w) := by
  have hfew : decide ((m : Int) ≤ 256) = true := decide_eq_true (by omega)
  have hn1 : 1 ≤ n ∧ n ≤ 64 := by unfold okLen at hn; simp at hn; omega
  have ht1 : 1 ≤ t ∧ t ≤ 64 := by unfold okLen at ht; simp at ht; omega
  have haI : (a : Int) ≤ 1000000000000000 := by omega
  have H0 := Lib.hid h0; have H2 := Lib.hid h2; have H4 := Lib.hid h4; have HT := Lib.hid htab; have HON := Lib.hid hn
  clear h0 h2 h4 htab ht hn
  go_enter Try.func13, Try.ntmps13
  go_wp2_with (first | (go_at_call 37; refine (implIsLine_b _ _ _ true _ HON.out).mono ?_; rintro e w' ⟨rfl, rfl⟩) | fail)
  generalize hW1 : World.alloc (World.alloc w _) _ = W1
  have z1 : Hid (W1.heap.size = w.heap.size + 2) := Lib.hid (by rw [← hW1]; simp)
  have S1 : Hid (w.Since w.heap.size W1) := Lib.hid (by rw [← hW1]; exact ((World.Since.refl _ _).alloc (Nat.le_refl _) _).alloc (by simp) _)
  have C1 : Hid (W1.cell? ⟨w.heap.size, 0, none⟩ = some (.slice (some ⟨b0, 0, none⟩) t t)) := Lib.hid (by rw [← hW1]; simp [go_sem])
  have M1 : Hid (W1.cell? ⟨w.heap.size + 1, 0, none⟩ = some (.float .f32 mx)) := Lib.hid (by rw [← hW1]; simp [go_sem])
  clear hW1
  have c1' := C1.out
  go_wp2_with fail
  go_at_call 38
  refine (isTab_b b0 t ts n true W1 (H0.out.now S1.out) (by omega) (by simp [HT.out]; omega)).mono ?_
  rintro e w2 ⟨rfl, hs2⟩
  have z2 : Hid (w.heap.size + 2 ≤ w2.heap.size) := Lib.hid (by have := hs2.size; have := z1.out; omega)
  have C2 : Hid (w2.cell? ⟨w.heap.size, 0, none⟩ = some (.slice (some ⟨b0, 0, none⟩) t t)) := Lib.hid ((hs2.cell (a := ⟨w.heap.size, 0, none⟩) (by show w.heap.size < W1.heap.size; have := z1.out; omega)).trans C1.out)
  have M2 : Hid (w2.cell? ⟨w.heap.size + 1, 0, none⟩ = some (.float .f32 mx)) := Lib.hid ((hs2.cell (a := ⟨w.heap.size + 1, 0, none⟩) (by show w.heap.size + 1 < W1.heap.size; have := z1.out; omega)).trans M1.out)
  have SW2 : Hid (w.Since w.heap.size w2) := Lib.hid (since_step S1.out hs2)
  clear hs2 c1'
  go_wp2_with (first | (go_at_call 27; refine (implSamples_b _ _ _ _ _ hfew).mono ?_; rintro e w' ⟨rfl, rfl⟩) | fail)
  go_at_call 28
  refine (ringOf_any A2 n c2 xs w2 (H2.out.now SW2.out) (by omega) (by omega)).mono ?_
  rintro e w3 ⟨rfl, hr3, hs3⟩
  have R3 := Lib.hid hr3; have S3 := Lib.hid hs3
  have z3 : Hid (w2.heap.size < w3.heap.size) := Lib.hid hr3.lt
  clear hr3 hs3
  go_wp2_with fail
  generalize hw4 : World.alloc (World.alloc w3 _) _ = w4
  have S4 : Hid (w3.Since w3.heap.size w4) := Lib.hid (by rw [← hw4]; exact ((World.Since.refl _ _).alloc (Nat.le_refl _) _).alloc (by simp) _)
  have C4 : Hid (w4.cell? ⟨w3.heap.size, 0, none⟩ = some (.pointer (some ⟨w2.heap.size, 0, none⟩))) := Lib.hid (by rw [← hw4]; simp [go_sem])
  have P4 : Hid (GF w4 (w3.heap.size + 1) 2 1 (fun _ => .int .i64 ((a + 0 : Nat) : Int))) := Lib.hid ⟨#[.int .i64 (a : Nat)], by rw [← hw4, show w3.heap.size + 1 = (w3.alloc (.cells #[.pointer (some ⟨w2.heap.size, 0, none⟩)] 59)).heap.size by simp]; exact Go.Deep.blk_alloc_new _ _, fun j hj => by (obtain rfl : j = 0 := (by omega)); rfl⟩
  have z4 : Hid (w4.heap.size = w3.heap.size + 2) := Lib.hid (by rw [← hw4]; simp)
  clear hw4
  have R4 : Hid (RingAt w4 w2.heap.size n 0 (fun j => wd xs j)) := Lib.hid (R3.out.since S4.out z3.out)
  have S34 : Hid (w2.Since w2.heap.size w4) := Lib.hid (since_step S3.out S4.out)
  have C5 : Hid (w4.cell? ⟨w.heap.size, 0, none⟩ = some (.slice (some ⟨b0, 0, none⟩) t t)) := Lib.hid ((S34.out.cell (a := ⟨w.heap.size, 0, none⟩) (by show w.heap.size < w2.heap.size; have := z2.out; omega)).trans C2.out)
  have M5 : Hid (w4.cell? ⟨w.heap.size + 1, 0, none⟩ = some (.float .f32 mx)) := Lib.hid ((S34.out.cell (a := ⟨w.heap.size + 1, 0, none⟩) (by show w.heap.size + 1 < w2.heap.size; have := z2.out; omega)).trans M2.out)
  have SW : Hid (w.Since w.heap.size w4) := Lib.hid (since_step SW2.out S34.out)
  have B4 : Hid (Fs w4 (w.heap.size + 2) A4 m ys) := Lib.hid ((H4.out.since SW.out).more (by omega))
  have y1 := z2.out; have y2 := z3.out; have y3 := z4.out
  refine (results_mid A4 m c4 ys 39 #[.pointer (some ⟨w3.heap.size, 0, none⟩), .pointer (some ⟨w.heap.size, 0, none⟩), .pointer (some ⟨w3.heap.size + 1, 0, none⟩), .pointer (some ⟨w.heap.size + 1, 0, none⟩)] (w.heap.size + 2) (ChI b0 t ts a n (chS n xs ys) mx w2.heap.size w3.heap.size w.heap.size (w3.heap.size + 1) (w.heap.size + 1) w.heap.size) (fun k => chY ts t a n xs ys mx k) w4 B4.out (by omega) hm (fun _ _ => rfl) ?hI ?hst ?h0).mono ?_
  case hI =>
    rintro k W W' ⟨f, ha, hb, hc, hd, he, hf, hi⟩ hs1 hs2 hbl
    exact ⟨f, ha.of (hbl _ (by omega)), hb, (cell_of_block (hbl _ (by omega)) 0).trans hc, (cell_of_block (hbl _ (by omega)) 0).trans hd, he.of (hbl _ (by omega)), (cell_of_block (hbl _ (by omega)) 0).trans hf, hi.keep fun g' o hg' => cell_of_block (hbl g' (by omega)) o⟩
  case hst =>
    rintro k q W hk rfl hi hs
    exact closChorus_any b0 t ts a n (chS n xs ys) mx w2.heap.size w3.heap.size w.heap.size (w3.heap.size + 1) (w.heap.size + 1) w.heap.size k _ W hi (by omega) ha ht1 hn1 HT.out hmx (B4.out.2.1.at_ k) (chS_new n xs ys k) (by omega) (by omega) (by omega) (by omega) (by omega) (by omega) (by omega) (by omega) (by omega) (by omega) w4.heap.size (w.heap.size + 2) (by omega) ⟨by omega, by omega⟩ ⟨by omega, by omega⟩
  case h0 => exact ⟨_, by rw [Nat.zero_mod]; exact R4.out, fun j hj => by rw [Ln.ix_zero hj]; exact (chS_old hj).symm, C4.out, C5.out, P4.out, M5.out, H0.out.since SW.out⟩
  rintro e w5 ⟨os, rfl, hgs, har, ⟨f5, hr5, hf5, hc5, _⟩, ho5⟩
  have G5 := Lib.hid hgs; have A5 := Lib.hid har; have R5 := Lib.hid hr5; have F5 := Lib.hid hf5; have O5 := Lib.hid ho5
  clear hgs har hr5 hf5 ho5
  have z5 : Hid (w4.heap.size ≤ w5.heap.size) := Lib.hid O5.out.size
  clear y1 y2 y3
  go_wp2_with (go_at_call 33; refine (line_any _ n _ f5 w5 R5.out (Nat.mod_lt _ (by omega)) hn1.2).mono ?_; rintro e w6 ⟨ls, rfl, hg6, hl6, hs6⟩; have G6 := Lib.hid hg6; have L6 := Lib.hid hl6; have S6 := Lib.hid hs6; clear hg6 hl6 hs6)
  go_ret3
  have y1 := z2.out; have y2 := z3.out; have y3 := z4.out; have y4 := z5.out
  have SZ : w.Since w.heap.size w6 := since_step (SW.out.trans (since_mono O5.out (by omega))) S6.out
  refine ⟨w4.heap.size, w5.heap.size, os, ls, m, n, rfl, (G5.out.since S6.out).read, G6.out.read, A5.out, fun i hi => ?_, SZ⟩
  have hi' : i < n := hi
  show ab .f32 (wd ls i) = _
  rw [L6.out i hi', F5.out _ (Nat.mod_lt _ (by omega)), Ln.ix_at hi']
end Go.Proofs.Ytflpackchlpedaa

/- A slice of integers that came in. -/
set_option linter.unusedVariables false
set_option linter.unusedSimpArgs false
namespace Go.Proofs.Ytflpackchlpedaa
namespace Fl
open Go.ChangeShapes Go.WideShapes Go.RowKit Go.WideMaps Go.WideElems
section
variable {H : Type} {enc : TypeId × Value → H} {P : Program}
theorem trod_in {w : World} {base : Nat} {spare : Nat → Bool} {held : Bool} {fuel : Nat} {t : TypeId} {k : IntKind} {cs : List Value} {x : DataW H × List MemPlace} (ht : P.underlying t = some (.int k))
    (h : DataW.trod enc P w base spare held fuel t cs = some x) : ∃ b, cs = [.int k b] ∧ (Lit.int k b).wf = true := by
  cases fuel with
  | zero => simp [DataW.trod] at h
  | succ n =>
    unfold DataW.trod at h
    rw [ht] at h
    split at h <;> simp_all
theorem open_is {W : World} {base b0 : Nat} {r : Reach} {t e : TypeId} {v : Value} {d : DataW H} {ps : List MemPlace} (ht : P.underlying t = some (.slice e)) (he : P.underlying e = some (.int .i64)) (hc : P.cellsOf e = 1)
    (hval : Value.okWide P W r b0 t v) (h : DataW.Trod enc P W base (fun _ => true) true t v d ps) :
    ∃ (A : Option Addr) (n c : Nat) (xs : List Int), v = .slice A n c ∧ (Is W W.heap.size A n xs ∧ ∀ k, k < n → (Lit.int .i64 (wi xs k)).wf = true) ∧ n ≤ 9223372036854775807 := by
  obtain ⟨A, n, c, rfl⟩ := okWide_slice ht hval
  obtain ⟨fuel, hf⟩ := h
  rcases Go.Deep.open_slice ht hf with ⟨hcs, _⟩ | ⟨a, len, cap, m, k, D, Pl, hcs, _, hl, hm, hmm, _, hi⟩
  · simp only [Value.cells, Array.toList] at hcs
    injection hcs with hcs _
    injection hcs with h1 h2 h3
    subst h1; subst h2; subst h3
    exact ⟨none, 0, 0, [], rfl, ⟨⟨rfl, (fun h => by omega)⟩, (fun k h => by omega)⟩, by omega⟩
  · simp only [Value.cells, Array.toList] at hcs
    injection hcs with hcs _
    injection hcs with h1 h2 h3
    subst h1; subst h2; subst h3
    rw [if_pos rfl] at hmm
    subst hmm
    have hcell : ∀ i, i < m → ∃ b : Int, W.cell? (a.add i) = some (.int .i64 b) ∧ (Lit.int .i64 b).wf = true := by
      intro i him
      obtain ⟨cs', hcs', htr⟩ := hi i him
      rw [hc, Nat.mul_one] at hcs'
      obtain ⟨_, hlen, hat⟩ := World.cells?_some hcs'
      obtain ⟨b, hb, hw⟩ := trod_in he htr
      have h0 := hat 0 (by omega)
      rw [hb] at h0
      refine ⟨b, ?_, hw⟩
      have e : (a.add i).add 0 = a.add i := by simp [Addr.add]
      rw [e] at h0
      exact h0
    let f : Nat → Int := fun i => if h : i < m then Classical.choose (hcell i h) else 0
    have hfs : ∀ i (h : i < m), W.cell? (a.add i) = some (.int .i64 (f i)) ∧ (Lit.int .i64 (f i)).wf = true := by
      intro i h
      have := Classical.choose_spec (hcell i h)
      simp only [f, dif_pos h]
      exact this
    refine ⟨some a, n, m, (List.range n).map f, rfl, ⟨⟨by simp, ?_⟩, ?_⟩, by unfold maxLen at hm; omega⟩
    · intro hn
      obtain ⟨g, off, spot⟩ := a
      have h0 := (hfs 0 (by omega)).1
      have hspot : spot = none := by simpa [Addr.add] using World.cell?_spot h0
      subst hspot
      refine ⟨g, off, rfl, ?_, fun k hk => ?_⟩
      · have h1 : W.cell? ⟨g, off, none⟩ = some (.int .i64 (f 0)) := by simpa [Addr.add] using h0
        rcases Nat.lt_or_ge g W.heap.size with h2 | h2
        · exact h2
        · simp [World.cell?, Array.getElem?_eq_none h2] at h1
      · have h1 := (hfs k (by omega)).1
        rw [Go.WideShapes.add_plain] at h1
        rw [h1]
        unfold iv wi
        simp [hk]
    · intro k hk
      have h1 := (hfs k (by omega)).2
      unfold wi
      simpa [hk] using h1
end
end Fl
end Go.Proofs.Ytflpackchlpedaa

/- Draws: lists that a law compares, and the bytes of a law. -/
set_option linter.unusedVariables false
set_option linter.unusedSimpArgs false
namespace Go.Proofs.Ytflpackchlpedaa
open Fl Go.RowKit
set_option maxHeartbeats 8000000 in
theorem b10Same_any (A C : Option Addr) (n c d : Nat) (xs ys : List Nat) (w : World) (ha : Fs w w.heap.size A n xs) (hc : Fs w w.heap.size C n ys) (hn : n ≤ 1048576)
    (hs : ∀ k, k < n → ab .f32 (wd xs k) = ab .f32 (wd ys k)) :
    Calls Try.prog 11 #[.slice A n c, .slice C n d] w fun e w' => e = .returned (.bool true) ∧ w.Since w.heap.size w' := by
  have HA := Lib.hid ha
  have HC := Lib.hid hc
  have HS := Lib.hid hs
  clear ha hc hs
  go_enter Try.func11, Try.ntmps11
  go_wp2
  go_loopw [5] (fun i wr => ∃ k : Nat, k ≤ n ∧ i = .int .i64 k ∧ w.Since w.heap.size wr) (fun i _ => n - (intOf i).toNat)
  case atStart => exact ⟨0, Nat.zero_le _, rfl, World.Since.refl _ _⟩
  case round =>
    obtain ⟨k, hk, rfl, hs⟩ := hrel
    have HT := Lib.hid hs; clear hs
    by_cases hlt : k < n
    · obtain ⟨g, off, rfl, hg, hc1⟩ := HA.out.2.2 (by omega)
      obtain ⟨g', off', rfl, hg', hc2⟩ := HC.out.2.2 (by omega)
      have hcell : wr.cell? ⟨g, off + k, none⟩ = some (.float .f32 (wd xs k)) := (HT.out.cell (a := ⟨g, off + k, none⟩) hg).trans (hc1 k hlt)
      have hcell2 : wr.cell? ⟨g', off' + k, none⟩ = some (.float .f32 (wd ys k)) := (HT.out.cell (a := ⟨g', off' + k, none⟩) hg').trans (hc2 k hlt)
      have hw1 := HA.out.2.1.at_ k
      have hw2 := HC.out.2.1.at_ k
      have he : decide (bitsO (ab .f32 (wd xs k)) = bitsO (ab .f32 (wd ys k))) = true := decide_eq_true (by rw [HS.out k hlt])
      clear hc1 hc2
      go_wp2
      have HQ : Hid (∀ v : World, Calls Try.prog 14 #[.float .f32 (wd xs k), .float .f32 (wd ys k)] v fun e v' => e = .returned (.bool true) ∧ v' = v) := Lib.hid fun v => (specSame_any _ _ _ hw1 hw2).mono fun e v' ⟨h1, h2⟩ => ⟨by rw [h1, he], h2.symm⟩
      go_quiet (first | (go_at_call 14; refine Calls.quiet_of_same (HQ.out _)))
      go_wp2
      go_roundw
      case rel => exact ⟨k + 1, by omega, by go_num, since_drewN HT.out _⟩
      case measure => simp [intOf]; omega
    · go_wp2
      go_ret
      exact ⟨rfl, HT.out⟩
namespace Fl
open Go.ChangeShapes Go.WideShapes Go.RowKit Go.WideMaps Go.WideElems
section
variable {H : Type} {enc : TypeId × Value → H} {P : Program}
theorem open_bs {W : World} {base b0 : Nat} {r : Reach} {t e : TypeId} {v : Value} {d : DataW H} {ps : List MemPlace} (ht : P.underlying t = some (.slice e)) (he : P.underlying e = some (.int .u8)) (hc : P.cellsOf e = 1)
    (hval : Value.okWide P W r b0 t v) (h : DataW.Trod enc P W base (fun _ => true) true t v d ps) :
    ∃ (A : Option Addr) (n c : Nat) (xs : List Int), v = .slice A n c ∧ Bs W W.heap.size A n xs ∧ n ≤ 9223372036854775807 := by
  obtain ⟨A, n, c, rfl⟩ := okWide_slice ht hval
  obtain ⟨fuel, hf⟩ := h
  rcases Go.Deep.open_slice ht hf with ⟨hcs, _⟩ | ⟨a, len, cap, m, k, D, Pl, hcs, _, hl, hm, hmm, _, hi⟩
  · simp only [Value.cells, Array.toList] at hcs
    injection hcs with hcs _
    injection hcs with h1 h2 h3
    subst h1; subst h2; subst h3
    exact ⟨none, 0, 0, [], rfl, ⟨rfl, (fun k => by simp [wi]), (fun h => by omega)⟩, by omega⟩
  · simp only [Value.cells, Array.toList] at hcs
    injection hcs with hcs _
    injection hcs with h1 h2 h3
    subst h1; subst h2; subst h3
    rw [if_pos rfl] at hmm
    subst hmm
    have hcell : ∀ i, i < m → ∃ b : Int, W.cell? (a.add i) = some (.int .u8 b) ∧ (Lit.int .u8 b).wf = true := by
      intro i him
      obtain ⟨cs', hcs', htr⟩ := hi i him
      rw [hc, Nat.mul_one] at hcs'
      obtain ⟨_, hlen, hat⟩ := World.cells?_some hcs'
      obtain ⟨b, hb, hw⟩ := trod_in he htr
      have h0 := hat 0 (by omega)
      rw [hb] at h0
      refine ⟨b, ?_, hw⟩
      have e : (a.add i).add 0 = a.add i := by simp [Addr.add]
      rw [e] at h0
      exact h0
    let f : Nat → Int := fun i => if h : i < m then Classical.choose (hcell i h) else 0
    have hfs : ∀ i (h : i < m), W.cell? (a.add i) = some (.int .u8 (f i)) ∧ (Lit.int .u8 (f i)).wf = true := by
      intro i h
      have := Classical.choose_spec (hcell i h)
      simp only [f, dif_pos h]
      exact this
    have hw8 : ∀ i, 0 ≤ f i ∧ f i < 256 := by
      intro i
      by_cases h : i < m
      · have h1 := (hfs i h).2
        simp only [Lit.wf, Bool.and_eq_true, decide_eq_true_eq] at h1
        have e1 : IntKind.min .u8 = 0 := by kernel_rfl
        have e2 : IntKind.max .u8 = 255 := by kernel_rfl
        rw [e1, e2] at h1
        omega
      · simp [f, h]
    refine ⟨some a, n, m, (List.range n).map f, rfl, ⟨by simp, ?_, ?_⟩, by unfold maxLen at hm; omega⟩
    · intro k
      unfold wi
      by_cases hk : k < n
      · simpa [hk] using hw8 k
      · simp [hk]
    · intro hn
      obtain ⟨g, off, spot⟩ := a
      have h0 := (hfs 0 (by omega)).1
      have hspot : spot = none := by simpa [Addr.add] using World.cell?_spot h0
      subst hspot
      refine ⟨g, off, rfl, ?_, fun k hk => ?_⟩
      · have h1 : W.cell? ⟨g, off, none⟩ = some (.int .u8 (f 0)) := by simpa [Addr.add] using h0
        rcases Nat.lt_or_ge g W.heap.size with h2 | h2
        · exact h2
        · simp [World.cell?, Array.getElem?_eq_none h2] at h1
      · have h1 := (hfs k (by omega)).1
        rw [Go.WideShapes.add_plain] at h1
        rw [h1]
        unfold wi
        simp [hk]
end
end Fl
end Go.Proofs.Ytflpackchlpedaa

/- Dynamics: the program's gate, all samples. -/
set_option linter.unusedVariables false
set_option linter.unusedSimpArgs false
namespace Go.Proofs.Ytflpackchlpedaa
open Fl Go.RowKit
end Go.Proofs.Ytflpackchlpedaa

/- Draws: the gate as a list of its own, blocks of it, and when it is open. -/
set_option linter.unusedVariables false
set_option linter.unusedSimpArgs false
namespace Go.Proofs.Ytflpackchlpedaa
open Fl Go.RowKit
/-- a list of numbers in a block of its own, with the places behind it -/
def PLIBo (n : Nat) (f : Nat → O) (i : Int) (b : Bool) (w : World) (e : Ending) (w' : World) : Prop :=
  ∃ (g c : Nat) (xs : List Nat), e = .returned (.tuple #[.slice (some ⟨g, 0, none⟩) n c, .int .i64 i, .bool b]) ∧ n ≤ c ∧ Gs 33 w' w.heap.size (some ⟨g, 0, none⟩) n xs ∧ Are ⟨some ⟨g, 0, none⟩, n, xs⟩ f ∧ w.Since w.heap.size w'
/-! blocks -/
theorem gateH_cut (X : Nat → O) (T : O) (hold held : Int) (a : Nat) : ∀ k, gateH (fun j => X (a + j)) T hold (gateH X T hold held a) k = gateH X T hold held (a + k)
  | 0 => rfl
  | k + 1 => by
    show (if geO (sizeO (X (a + k))) T then hold else _) = (if geO (sizeO (X (a + k))) T then hold else _)
    rw [gateH_cut X T hold held a k]
    rfl
theorem gateY_cut (X : Nat → O) (T : O) (hold held : Int) (a k : Nat) : gateY (fun j => X (a + j)) T hold (gateH X T hold held a) k = gateY X T hold held (a + k) := by
  unfold gateY
  rw [gateH_cut]
theorem gateH_like {X Y : Nat → O} {T : O} {hold held : Int} {n : Nat} (h : ∀ k, k < n → X k = Y k) : ∀ k, k ≤ n → gateH X T hold held k = gateH Y T hold held k
  | 0, _ => rfl
  | k + 1, hk => by
    unfold gateH
    rw [gateH_like h k (by omega), h k (by omega)]
theorem gateY_like {X Y : Nat → O} {T : O} {hold held : Int} {n : Nat} (h : ∀ k, k < n → X k = Y k) (k : Nat) (hk : k < n) : gateY X T hold held k = gateY Y T hold held k := by
  unfold gateY
  rw [gateH_like h k (by omega), h k hk]
/-! when it is open -/
/-- the last loud place before k -/
def lastO (X : Nat → O) (T : O) : Nat → Int
  | 0 => -1
  | k + 1 => if geO (sizeO (X k)) T then (k : Int) else lastO X T k
theorem lastO_in (X : Nat → O) (T : O) : ∀ k, -1 ≤ lastO X T k ∧ lastO X T k < (k : Int)
  | 0 => by unfold lastO; omega
  | k + 1 => by
    have := lastO_in X T k
    unfold lastO
    split <;> omega
theorem gateH_last (X : Nat → O) (T : O) (hold : Int) (h0 : 0 ≤ hold) : ∀ k, gateH X T hold 0 k = if 0 ≤ lastO X T k ∧ (k : Int) - 1 - lastO X T k ≤ hold then hold - ((k : Int) - 1 - lastO X T k) else 0
  | 0 => by unfold gateH lastO; simp
  | k + 1 => by
    have ih := gateH_last X T hold h0 k
    have hi := lastO_in X T k
    unfold gateH lastO
    by_cases h : geO (sizeO (X k)) T = true
    · rw [if_pos h, if_pos h, if_pos (by omega)]; omega
    · rw [if_neg h, if_neg h, ih]
      by_cases h1 : 0 ≤ lastO X T k ∧ (k : Int) - 1 - lastO X T k ≤ hold
      · rw [if_pos h1]
        by_cases h2 : 0 < hold - ((k : Int) - 1 - lastO X T k)
        · rw [if_pos h2, if_pos (by omega)]; omega
        · rw [if_neg h2, if_neg (by omega)]; omega
      · rw [if_neg h1, if_neg (by omega), if_neg (by omega)]
theorem gateY_open (X : Nat → O) (T : O) (hold : Int) (h0 : 0 ≤ hold) (k : Nat) : gateY X T hold 0 k = if 0 ≤ lastO X T (k + 1) ∧ (k : Int) - lastO X T (k + 1) ≤ hold then X k else some 0 := by
  have hH := gateH_last X T hold h0 k
  have hi := lastO_in X T k
  unfold gateY lastO
  by_cases h : geO (sizeO (X k)) T = true
  · rw [if_pos h, if_pos h, if_pos (by omega)]
  · rw [if_neg h, if_neg h, hH]
    by_cases h1 : 0 ≤ lastO X T k ∧ (k : Int) - lastO X T k ≤ hold
    · rw [if_pos h1, if_pos (by rw [if_pos (by omega)]; omega)]
    · rw [if_neg h1, if_neg]
      split <;> omega
/-! the greater one of a number and its opposite -/
theorem neg32 (b : Nat) (h : b < 4294967296) : Op.negFloat .f32 b = if b < 2147483648 then b + 2147483648 else b - 2147483648 := by
  have e2 := neg_mod .f32 b
  rw [sw32] at e2
  unfold Op.negFloat at e2 ⊢
  have e3 : (b ^^^ (2 ^ (FloatKind.f32.format.exponentBits + FloatKind.f32.format.fractionBits))) / 2147483648 = (b / 2147483648) ^^^ 1 := by
    rw [show (2 : Nat) ^ (FloatKind.f32.format.exponentBits + FloatKind.f32.format.fractionBits) = 2 ^ 31 by decide, show (2147483648 : Nat) = 2 ^ 31 by decide, ← Nat.shiftRight_eq_div_pow, Nat.shiftRight_xor_distrib, Nat.shiftRight_eq_div_pow, Nat.shiftRight_eq_div_pow]
  by_cases hb : b < 2147483648
  · rw [show b / 2147483648 = 0 by omega] at e3
    rw [if_pos hb]
    have : (0 ^^^ 1 : Nat) = 1 := by decide
    omega
  · rw [show b / 2147483648 = 1 by omega] at e3
    rw [if_neg hb]
    have : (1 ^^^ 1 : Nat) = 0 := by decide
    omega
theorem ge_key {x t : Nat} (hx : ab .f32 x = some x) (ht : ab .f32 t = some t) : geO (some x) (some t) = decide (key .f32 t ≤ key .f32 x) := by
  unfold geO gtO eqO ordO
  show ((FloatKind.f32.format.order x t == some .gt) || (FloatKind.f32.format.order x t == some .eq)) = _
  rw [order_key .f32 hx ht, cmp_def]
  rcases Int.lt_trichotomy (key .f32 x) (key .f32 t) with h | h | h
  · rw [if_pos h, decide_eq_false (by omega)]; rfl
  · rw [if_neg (by omega), if_pos h, decide_eq_true (by omega)]; rfl
  · rw [if_neg (by omega), if_neg (by omega), decide_eq_true (by omega)]; rfl
theorem ge_none (X : O) : geO X none = false := by cases X <;> rfl
theorem ge_size (x : Nat) (hx : x < 4294967296) (T : O) (t : Nat) (ht : Fv .f32 t T) : geO (sizeO (ab .f32 x)) T = (geO (ab .f32 x) T || geO (ab .f32 (Op.negFloat .f32 x)) T) := by
  obtain ⟨ht1, ht2⟩ := ht
  subst ht2
  have ht1' : t < 4294967296 := ht1
  have hm := neg_mod .f32 x
  rw [sw32] at hm
  rw [ab32 t]
  split
  · rw [ge_none, ge_none, ge_none]; rfl
  · next h1 =>
    rw [ab32 x, ab32 (Op.negFloat .f32 x), hm]
    by_cases h2 : 2139095040 < x % 2147483648
    · rw [if_pos h2, if_pos h2]; rfl
    · rw [if_neg h2, if_neg h2]
      have a1 : ab .f32 t = some t := by rw [ab32, if_neg h1]
      have a2 : ab .f32 x = some x := by rw [ab32, if_neg h2]
      have a3 : ab .f32 (Op.negFloat .f32 x) = some (Op.negFloat .f32 x) := by rw [ab32, hm, if_neg h2]
      have a4 : ab .f32 (sizeN x) = some (sizeN x) := by unfold sizeN; rw [ab32, Nat.mod_mod, if_neg h2]
      show geO (some (sizeN x)) (some t) = _
      rw [ge_key a4 a1, ge_key a2 a1, ge_key a3 a1]
      have hn := neg32 x hx
      have l3 : Op.negFloat .f32 x < 4294967296 := neg_lt .f32 hx
      have l4 : sizeN x < 4294967296 := sizeN_lt x
      rw [key32 _ l4, key32 _ hx, key32 _ l3, hn]
      unfold sizeN
      rw [← Bool.decide_or]
      congr 1
      by_cases hb : x < 2147483648
      · rw [if_pos (by omega), if_pos hb, if_pos hb, if_neg (by omega)]
        apply propext; constructor
        · intro h; left; omega
        · intro h; omega
      · rw [if_pos (by omega), if_neg hb, if_neg hb, if_pos (by omega)]
        apply propext; constructor
        · intro h; right; omega
        · intro h; omega
end Go.Proofs.Ytflpackchlpedaa

/- The law of gates. -/
set_option linter.unusedVariables false
set_option linter.unusedSimpArgs false
namespace Go.Proofs.Ytflpackchlpedaa
open Fl Go.RowKit
theorem Fs.head {w : World} {B n m : Nat} {A : Option Addr} {xs : List Nat} (h : Fs w B A n xs) (hm : m ≤ n) : Fs w B A m (xs.take m) :=
  ⟨by rw [List.length_take, h.1]; omega, fun x hx => h.2.1 x (List.mem_of_mem_take hx), fun h0 => by
    obtain ⟨g, off, e, hg, hc⟩ := h.2.2 (by omega)
    refine ⟨g, off, e, hg, fun k hk => ?_⟩
    rw [hc k (by omega)]
    unfold fv wd
    simp [List.getD_eq_getElem?_getD, List.getElem?_take, hk]⟩
theorem wd_take (xs : List Nat) (m k : Nat) (h : k < m) : wd (xs.take m) k = wd xs k := by unfold wd; simp [List.getD_eq_getElem?_getD, List.getElem?_take, h]
theorem Fs.tail0 {w : World} {B n m : Nat} {g : Nat} {xs : List Nat} (h : Fs w B (some ⟨g, 0, none⟩) n xs) (hm : m ≤ n) : Fs w B (some ⟨g, m, none⟩) (n - m) (xs.drop m) := by
  have h1 := Fs.tail (n := m) (m := n - m) (g := g) (off := 0) (w := w) (B := B) (xs := xs) (by rw [show m + (n - m) = n by omega]; exact h)
  rwa [Nat.zero_add] at h1
theorem Fs.cell0 {w : World} {B n g k : Nat} {xs : List Nat} (h : Fs w B (some ⟨g, 0, none⟩) n xs) (hk : k < n) : w.cell? ⟨g, k, none⟩ = some (.float .f32 (wd xs k)) ∧ g < B := by
  obtain ⟨g', off, e, hg, hc⟩ := h.2.2 (by omega)
  injection e with e
  injection e with e1 e2 _
  subst e1; subst e2
  have := hc k hk
  rw [Nat.zero_add] at this
  exact ⟨this, hg⟩
/-- an operation whose guard says yes, as one without a guard -/
theorem wpList_yes {ops : Array Oper} {rest : List Oper} {o : Oper} {a : Act} {Q : Exit → Act → World → Prop} {w : World} (hw : Region.wanted o (yielded ops a.tmps) = true)
    (h : wpList Try.prog ops Q ({ o with guard := none } :: rest) a w) : wpList Try.prog ops Q (o :: rest) a w := by
  unfold wpList at h ⊢
  rw [if_pos hw]
  rw [if_pos (by rfl)] at h
  exact h
end Go.Proofs.Ytflpackchlpedaa

/- Plain numbers: sevenths and sixteenths, all of them. -/
set_option linter.unusedVariables false
set_option linter.unusedSimpArgs false
namespace Go.Proofs.Ytflpackchlpedaa
open Fl Go.RowKit
def plL : List Nat := [3239201061, 3239051264, 3238901467, 3238751671, 3238601874, 3238452078, 3238302281, 3238152485, 3238002688, 3237703095, 3237403502, 3237103909,
  3236804315, 3236504722, 3236205129, 3235905536, 3235605943, 3235306350, 3235006757, 3234707163, 3234407570, 3234107977, 3233808384, 3233508791,
  3233209198, 3232909605, 3232610011, 3232310418, 3232010825, 3231711232, 3231411639, 3231112046, 3230812453, 3230512859, 3230213266, 3229913673,
  3229614080, 3229014894, 3228415707, 3227816521, 3227217335, 3226618149, 3226018962, 3225419776, 3224820590, 3224221403, 3223622217, 3223023031,
  3222423845, 3221824658, 3221225472, 3220027099, 3218828727, 3217630354, 3216431982, 3215233609, 3214035237, 3212836864, 3210440119, 3208043374,
  3205646629, 3202051511, 3197258021, 3188869413, 0, 1041385765, 1049774373, 1054567863, 1058162981, 1060559726, 1062956471, 1065353216,
  1066551589, 1067749961, 1068948334, 1070146706, 1071345079, 1072543451, 1073741824, 1074341010, 1074940197, 1075539383, 1076138569, 1076737755,
  1077336942, 1077936128, 1078535314, 1079134501, 1079733687, 1080332873, 1080932059, 1081531246, 1082130432, 1082430025, 1082729618, 1083029211,
  1083328805, 1083628398, 1083927991, 1084227584, 1084527177, 1084826770, 1085126363, 1085425957, 1085725550, 1086025143, 1086324736, 1086624329,
  1086923922, 1087223515, 1087523109, 1087822702, 1088122295, 1088421888, 1088721481, 1089021074, 1089320667, 1089620261, 1089919854, 1090219447,
  1090519040, 1090668837, 1090818633, 1090968430, 1091118226, 1091268023, 1091417819, 1091567616, 1091717413, 3229614080, 3229351936, 3229089792,
  3228827648, 3228565504, 3228303360, 3228041216, 3227779072, 3227516928, 3227254784, 3226992640, 3226730496, 3226468352, 3226206208, 3225944064,
  3225681920, 3225419776, 3225157632, 3224895488, 3224633344, 3224371200, 3224109056, 3223846912, 3223584768, 3223322624, 3223060480, 3222798336,
  3222536192, 3222274048, 3222011904, 3221749760, 3221487616, 3221225472, 3220701184, 3220176896, 3219652608, 3219128320, 3218604032, 3218079744,
  3217555456, 3217031168, 3216506880, 3215982592, 3215458304, 3214934016, 3214409728, 3213885440, 3213361152, 3212836864, 3211788288, 3210739712,
  3209691136, 3208642560, 3207593984, 3206545408, 3205496832, 3204448256, 3202351104, 3200253952, 3198156800, 3196059648, 3191865344, 3187671040,
  3179282432, 0, 1031798784, 1040187392, 1044381696, 1048576000, 1050673152, 1052770304, 1054867456, 1056964608, 1058013184, 1059061760,
  1060110336, 1061158912, 1062207488, 1063256064, 1064304640, 1065353216, 1065877504, 1066401792, 1066926080, 1067450368, 1067974656, 1068498944,
  1069023232, 1069547520, 1070071808, 1070596096, 1071120384, 1071644672, 1072168960, 1072693248, 1073217536, 1073741824, 1074003968, 1074266112,
  1074528256, 1074790400, 1075052544, 1075314688, 1075576832, 1075838976, 1076101120, 1076363264, 1076625408, 1076887552, 1077149696, 1077411840,
  1077673984, 1077936128, 1078198272, 1078460416, 1078722560, 1078984704, 1079246848, 1079508992, 1079771136, 1080033280, 1080295424, 1080557568,
  1080819712, 1081081856, 1081344000, 1081606144, 1081868288, 1082130432]
def plW (i : Nat) : Nat := plL.getD i 0
set_option maxRecDepth 100000 in
theorem pl_tab7 : ∀ i : Nat, i < 129 → opO .quo .f32 (some (fI ((i : Int) - 64))) (some 1088421888) = some (plW i) := by decide +kernel
set_option maxRecDepth 100000 in
theorem pl_tab16 : ∀ i : Nat, i < 129 → opO .quo .f32 (some (fI ((i : Int) - 64))) (some 1098907648) = some (plW (129 + i)) := by decide +kernel
set_option maxRecDepth 100000 in
theorem pl_small : ∀ i < 258, plW i < 4294967296 ∧ plW i % 2147483648 ≤ 1091999999 := by decide +kernel
/-- a number that is plain -/
def Pl (X : O) : Prop := ∃ i, i < 258 ∧ X = some (plW i)
theorem pl_fv {i : Nat} (h : i < 258) : Hid (Fv .f32 (plW i) (some (plW i))) := by
  obtain ⟨h1, h2⟩ := pl_small i h
  exact fvc h1 (by omega)
set_option maxHeartbeats 4000000 in
set_option maxRecDepth 100000 in
theorem plainW_any (B b K : Nat) (w : World) (h : Src B b K w) (hK : K ≤ 900000) :
    Calls Try.prog 36 #[.pointer (some ⟨b, 0, none⟩)] w fun e w' => ∃ q Q, e = .returned (.float .f32 q) ∧ Hid (Fv .f32 q Q) ∧ Hid (Pl Q) ∧ Src B b (K + 4) w' ∧ On b w w' := by
  have HH := Lib.hid h; clear h
  go_enter Try.func36, Try.ntmps36
  go_wp2_with fail
  refine (pick_any B b K 129 w HH.out (by omega) (by omega)).mono ?_
  rintro e w1 ⟨v1, rfl, a1, a2, s1, o1⟩
  have a3 := a2 (by omega)
  have S1 := Lib.hid s1; have O1 := Lib.hid o1; clear s1 o1 a2
  go_wp2_with fail
  refine (one_any B b (K + 2) 4 w1 S1.out (by omega) (by omega)).mono ?_
  rintro e w2 ⟨v2, rfl, s2, o2⟩
  have S2 := Lib.hid s2; have O2 := Lib.hid o2; clear s2 o2
  have q1 := fI_fv (v1 - 64)
  have q7 : Hid (Fv .f32 1088421888 (some 1088421888)) := fvc (by decide) (by decide)
  have q16 : Hid (Fv .f32 1098907648 (some 1098907648)) := fvc (by decide) (by decide)
  obtain ⟨i, hi⟩ := Int.eq_ofNat_of_zero_le a1
  have T7 : Hid (Pl (opO .quo .f32 (some (fI (v1 - 64))) (some 1088421888))) := Lib.hid ⟨i, by omega, by rw [hi]; exact pl_tab7 i (by omega)⟩
  have T16 : Hid (Pl (opO .quo .f32 (some (fI (v1 - 64))) (some 1098907648))) := Lib.hid ⟨129 + i, by omega, by rw [hi]; exact pl_tab16 i (by omega)⟩
  clear hi
  cases v2
  all_goals
    go_wp2_with (with_reducible_and_instances refine Lo.wpList_fo _ rfl _ _ _ _ _ rfl _ _ _ _ _ rfl rfl rfl (by assumption) (by assumption) ?_; intro rr nn hrr)
    go_ret
    exact ⟨_, _, rfl, hrr, by assumption, S2.out.drewN _, (O1.out.trans O2.out).drewN _⟩
theorem B10Plain_any (A : Option Addr) (n c : Nat) (xs : List Int) (w : World) (h : Bs w w.heap.size A n xs) (hn : n ≤ 1048576) :
    Calls Try.prog 12 #[.slice A n c] w fun e w' => ∃ q Q, e = .returned (.float .f32 q) ∧ Hid (Fv .f32 q Q) ∧ Hid (Pl Q) ∧ w.Since w.heap.size w' := by
  have HH := Lib.hid h; clear h
  go_enter Try.func12, Try.ntmps12
  go_wp2_with fail
  refine (source_any A n c xs w HH.out hn).mono ?_
  rintro e w1 ⟨rfl, s1, t1⟩
  have S1 := Lib.hid s1; have T1 := Lib.hid t1; clear s1 t1
  go_wp2_with fail
  refine (plainW_any w.heap.size w.heap.size 0 w1 S1.out (by omega)).mono ?_
  rintro e w2 ⟨q, Q, rfl, hq, hp, s2, o2⟩
  have T2 := Lib.hid (T1.out.trans (o2.since (Nat.le_refl _))); clear s2 o2
  go_wp2
  go_ret
  exact ⟨_, _, rfl, hq, hp, T2.out⟩
/-- a row of plain numbers -/
def PlA (lo : Nat) (w : World) (v : Value) (k : Nat) : Prop := (∃ F, Rw lo w v k F ∧ ∀ j, j < k → Pl (F j)) ∧ ∃ g c, v = .slice (some ⟨g, 0, none⟩) k c
theorem PlA.grown {lo : Nat} {w : World} {v : Value} {k : Nat} {F : Nat → O} (h : Rw lo w v (k + 1) F) (hp : ∀ j, j < k + 1 → Pl (F j)) : PlA lo w v (k + 1) := by
  refine ⟨⟨F, h, hp⟩, ?_⟩
  obtain ⟨A, c, xs, rfl, _, hn, hs, _⟩ := h.fin
  cases A with
  | none => exact absurd (hn rfl).1 (by omega)
  | some a =>
    obtain ⟨g, rfl, _⟩ := hs a rfl
    exact ⟨g, c, rfl⟩
theorem PlA.end_ {lo : Nat} {w : World} {v : Value} {k : Nat} (h : PlA lo w v k) : ∃ g c xs, v = .slice (some ⟨g, 0, none⟩) k c ∧ k ≤ c ∧ Gs 33 w lo (some ⟨g, 0, none⟩) k xs ∧ ∀ j, j < k → Pl (ab .f32 (wd xs j)) := by
  obtain ⟨⟨F, hF, hp⟩, g, c, rfl⟩ := h
  obtain ⟨A, c', xs, e, hc, _, _, hg, hf⟩ := hF.fin
  injection e with e1 e2 e3
  subst e1; subst e3
  exact ⟨g, c, xs, rfl, hc, hg, fun j hj => by rw [hf j hj]; exact hp j hj⟩
theorem PlA.pick {lo : Nat} {w : World} {v : Value} {k : Nat} {Q : O} (h : PlA lo w v k) (hq : Pl Q) : ∃ F, Rw lo w v k F ∧ F k = Q ∧ ∀ j, j < k + 1 → Pl (F j) := by
  obtain ⟨⟨F, hF, hp⟩, _⟩ := h
  exact ⟨fun j => if j = k then Q else F j, hF.like fun j hj => by simp [show j ≠ k by omega], by simp, fun j hj => by
    by_cases e : j = k
    · simp only [e, if_true]; exact hq
    · simp only [e, if_false]; exact hp j (by omega)⟩
theorem PlA.on {lo g : Nat} {w w' : World} {v : Value} {k : Nat} (h : PlA lo w v k) (o : On g w w') (hg : g < lo) : PlA lo w' v k := by
  obtain ⟨⟨F, hF, hp⟩, hv⟩ := h
  exact ⟨⟨F, hF.on o hg, hp⟩, hv⟩
/-- plain numbers that a call has drawn: a list in memory of its own -/
def PPl (n : Nat) (w : World) (e : Ending) (w' : World) : Prop := ∃ (g c : Nat) (xs : List Nat), e = .returned (.slice (some ⟨g, 0, none⟩) n c) ∧ n ≤ c ∧ Gs 33 w' w.heap.size (some ⟨g, 0, none⟩) n xs ∧ Hid (∀ j, j < n → Pl (ab .f32 (wd xs j))) ∧ w.Since w.heap.size w'
end Go.Proofs.Ytflpackchlpedaa

/- What is known of a slot: lists of numbers, boxes. -/
set_option linter.unusedVariables false
set_option linter.unusedSimpArgs false
namespace Go.Proofs.Ytflpackchlpedaa
open Fl Go.RowKit
namespace Lk
/-- an entry among these blocks, behind lo -/
def EnK (lo : Nat) (e : En) (S : Fp) (w : World) : Prop := e.P w ∧ (∀ w w' : World, (∀ g, e.S g → w'.heap[g]? = w.heap[g]?) → e.P w → e.P w') ∧ (∀ k, e.S k → S k) ∧ ∀ k, e.S k → lo ≤ k
theorem EnK.keep {lo : Nat} {e : En} {S : Fp} {w w' : World} (h : EnK lo e S w) (hs : ∀ g, S g → w'.heap[g]? = w.heap[g]?) : EnK lo e S w' := ⟨h.2.1 w w' (fun g hg => hs g (h.2.2.1 g hg)) h.1, h.2⟩
theorem EnK.of {lo B : Nat} {e : En} {w : World} (h : Ge B w e) (hl : lo ≤ B) : EnK lo e e.S w := ⟨h.1, h.2.1, fun _ h => h, fun k hk => Nat.le_trans hl (h.2.2 k hk).1⟩
theorem EnK.ge {lo : Nat} {e : En} {S : Fp} {w : World} (h : EnK lo e S w) (hb : ∀ g, S g → g < w.heap.size) : Ge lo w e := ⟨h.1, h.2.1, fun g hg => ⟨h.2.2.2 g hg, hb g (h.2.2.1 g hg)⟩⟩
theorem EnK.readF {lo n : Nat} {A : Option Addr} {xs : List Nat} {S : Fp} {w : World} (h : EnK lo (fe A n xs) S w) : Fs w w.heap.size A n xs :=
  ⟨h.1.1.1, h.1.1.2, fun hn => by
    obtain ⟨g, off, cs, e, hb, hc⟩ := h.1.2 hn
    refine ⟨g, off, e, (Array.getElem?_eq_some_iff.1 hb).1, fun k hk => ?_⟩
    simp only [World.cell?, hb]
    simpa using hc k hk⟩
/-- a copy of numbers -/
def xK (lo n : Nat) (xs : List Nat) : Kd where
  p := fun u S w => ∃ B : Nat, u = .slice (some ⟨B, 0, none⟩) n n ∧ EnK lo (fe (some ⟨B, 0, none⟩) n xs) S w
  stable := fun u S w w' h hp => by
    obtain ⟨B, e, hb⟩ := hp
    exact ⟨B, e, hb.keep h⟩
  bx := false
/-- a list of numbers -/
def feK (lo n0 : Nat) (f0 : Nat → O) : Kd where
  p := fun u S w => ∃ (p : Ls) (c : Nat), u = .slice p.A p.n c ∧ p.n = n0 ∧ Are p f0 ∧ EnK lo (fe p.A p.n p.xs) S w
  stable := fun u S w w' h hp => by
    obtain ⟨p, c, e, h1, h2, hb⟩ := hp
    exact ⟨p, c, e, h1, h2, hb.keep h⟩
  bx := false
theorem box_ge {T : TypeId} {Pc : List Value → Prop} {u : Value} {S : Fp} {w : World} {lo : Nat} (h : (bxK T Pc).p u S w) (hb : ∀ g, S g → g < w.heap.size) (hl : ∀ g, S g → lo ≤ g) : ∃ g cs, u = .pointer (some ⟨g, 0, none⟩) ∧ Pc cs ∧ (∀ k, S k ↔ k = g) ∧ Ge lo w (bxv T g cs) := by
  obtain ⟨g, cs, e, hS, hh, hc⟩ := h
  exact ⟨g, cs, e, hc, hS, hh, fun w w' h hp => (h g rfl).trans hp, fun k hk => by
    have hk' : k = g := hk
    subst hk'
    exact ⟨hl k ((hS k).2 rfl), hb k ((hS k).2 rfl)⟩⟩
theorem box_de {T : TypeId} {g : Nat} {cs : List Value} {S S' : Fp} {e : En} {lo : Nat} {w : World} (hS : ∀ k, S k ↔ k = g) (hd : ∀ k, S k → ¬ S' k) (h : EnK lo e S' w) : De (bxv T g cs) e := fun k hk he => hd k ((hS k).2 hk) (h.2.2.1 k he)
end Lk
end Go.Proofs.Ytflpackchlpedaa

/- Loose regions with guards. -/
set_option linter.unusedVariables false
set_option linter.unusedSimpArgs false
namespace Go.Proofs.Ytflpackchlpedaa
open Fl Go.RowKit
namespace Lk
section
variable {P : Program} {ops : Array Oper} {w0 : World} {Q : Fa → Prop} {A : Fa} {o : Oper} {rest : List Oper}
/-- an operation without its guard -/
def free (o : Oper) : Oper := { o with guard := none }
theorem looks_free {i : Nat} (h : i ∈ (free o).looksAt ops) : i ∈ o.looksAt ops := by
  unfold Oper.looksAt at h ⊢
  rcases List.mem_append.1 h with h | h
  · exact List.mem_append_left _ h
  · cases h
theorem good_free {N : Nat} {b : Act} {fp : Nat → Fp} {w : World} {e : Ef} {u : Value} {w' : World} (h : good ops N (free o) A b fp w e u w') : good ops N o A b fp w e u w' := by
  obtain ⟨x, st⟩ := e
  unfold good at h ⊢
  refine ⟨?_, h.2⟩
  cases x with
  | v z => exact h.1
  | k K =>
    obtain ⟨h1, S, h2, h3, h4⟩ := h.1
    refine ⟨h1, S, h2, h3, fun g hg => ⟨(h4 g hg).1, ?_⟩⟩
    rcases (h4 g hg).2 with h5 | h5 | ⟨j, K', h6, h7⟩
    · exact .inl h5
    · exact .inr (.inl h5)
    · exact .inr (.inr ⟨j, K', looks_free h6, h7⟩)
theorem upon_mono {G H : Value → World → Prop} (hGH : ∀ u w, G u w → H u w) {r : Result Next} (h : upon P G r) : upon P H r := by
  cases r with
  | ok n w2 =>
    cases n with
    | value u => exact hGH _ _ h
    | skip => exact hGH _ _ h
    | enter f args => exact Calls.mono h fun e w3 ⟨u, he, hu⟩ => ⟨u, he, hGH _ _ hu⟩
    | _ => exact h
  | halt x w2 => exact h
/-- an operation whose guard says yes -/
theorem wpK_yes {q : Nat × Bool} (hg : o.guard = some q) (hw : Region.wanted o (yielded ops A.a.tmps) = true) (h : wpK P ops w0 Q (⟨o.dst, o.op, o.type, o.pos, o.after, none⟩ :: rest) A) : wpK P ops w0 Q (o :: rest) A := by
  have h' : wpK P ops w0 Q (free o :: rest) A := h
  unfold wpK at h' ⊢
  rw [if_pos hw]
  rw [if_pos (Lo.wanted_none rfl _)] at h'
  obtain ⟨e, ⟨h1, h2⟩, hK⟩ := h'
  refine ⟨e, ⟨h1, fun b fp w hw hN hs hR => ?_⟩, hK⟩
  exact upon_mono (fun u w' hg => good_free hg) (h2 b fp w hw hN hs fun i hi => hR i (looks_free hi))
end
section
variable {P : Program} {ops : Array Oper} {w0 : World} {Q : Fa → Prop} {a : Act} {κ : Nat → Option Kd} {o : Oper} {rest : List Oper} {d : Nat}
/-- an operation whose guard says no -/
theorem sSkip {q : Nat × Bool} (hg : o.guard = some q) (hw : Region.wanted o (yielded ops a.tmps) = false) (hd : o.dst = some d) (hk : κ d = none) (hK : wpK P ops w0 Q rest ⟨a.put (some d) undef, κ⟩) : wpK P ops w0 Q (o :: rest) ⟨a, κ⟩ := by
  unfold wpK
  rw [if_neg (by rw [hw]; decide), hd, put_known hk]
  exact hK
theorem sYes {q : Nat × Bool} (hg : o.guard = some q) (hw : Region.wanted o (yielded ops a.tmps) = true) (h : wpK P ops w0 Q (⟨o.dst, o.op, o.type, o.pos, o.after, none⟩ :: rest) ⟨a, κ⟩) : wpK P ops w0 Q (o :: rest) ⟨a, κ⟩ := wpK_yes hg hw h
/-- a float, whatever its bits if it is none -/
def yF (Y : O) : Kd where
  p := fun u S w => ∃ q : Nat, u = .float .f32 q ∧ Hid (Fv .f32 q Y)
  stable := fun u S w w' h hp => hp
  bx := false
/-- an operation on floats, whose result may be none -/
theorem sFop (hg : o.guard = none) (hd : o.dst = some d) (hs : d < a.tmps.size) (ho : avoidK ⟨a, κ⟩ o = true) (op : BinOp) (t t2 : TypeId) (x y : Operand) (hop : o.op = Op.binOp op t x y t2) (hf : isF op = true) (p q : Nat) (X Y : O)
    (hx : a.eval x = .float .f32 p) (hy : a.eval y = .float .f32 q) (hX : Hid (Fv .f32 p X)) (hY : Hid (Fv .f32 q Y)) (hK : wpK P ops w0 Q rest ⟨a.put (some d) undef, upd κ d (some (yF (opO op .f32 X Y)))⟩) : wpK P ops w0 Q (o :: rest) ⟨a, κ⟩ := by
  refine wpK_of_loose (e := ⟨.k (yF (opO op .f32 X Y)), none⟩) hg ⟨fun q hq => (by cases hq), fun b fp w hw hN _ hR => ?_⟩ (by rw [hd, put_some hs]; exact hK)
  rw [eval_avoidK hR ho]
  have e : (execOp a.eval o).run P w = .ok (.value (.float .f32 (ov op .f32 p q w))) (w.drewN (on op .f32 p q)) := by
    have he : eqGuard op t x y (.float .f32 p) (.float .f32 q) = pure () := by
      unfold eqGuard
      cases op <;> simp only [isF] at hf <;> first | (cases hf; done) | rfl
    unfold execOp
    simp only [hop, hx, hy, he, Sem.run_bind, run_fopE hf, Result.andThen_ok, Sem.run_pure]
  rw [e]
  refine ⟨⟨trivial, fun _ => False, ⟨_, rfl, Lib.hid ?_⟩, (fun h => by cases h), fun g hg => hg.elim⟩, since_drewN (World.Since.refl _ _) _⟩
  have := ov_fv hf .f32 p q w
  rw [hX.out.2, hY.out.2] at this
  exact this
/-- a call with one argument known by its properties, and one known value -/
theorem sCall1V (hg : o.guard = none) (hd : o.dst = some d) (hkd : κ d = none) (f : FuncId) (xs : List Operand) (tys : Array TypeId) (hop : o.op = Op.call ⟨.value (.func f), xs.toArray, tys⟩) (henter : ∀ args w2, (callFunc f args).run P w2 = .ok (.enter f args) w2) (s : Nat) (hin : (.tmp s : Operand) ∈ xs) (K0 : Kd) (hks : κ s = some K0) (V : Value → List Value)
    (hV : ∀ b : Act, (xs.map fun x => match x with | .tmp t => (match κ t with | some _ => b.tmps.getD t undef | none => a.tmps.getD t undef) | y => a.eval y) = V (b.tmps.getD s undef)) (z : Value)
    (hc : ∀ u S w, w0.Since w0.heap.size w → w0.heap.size ≤ w.heap.size → K0.p u S w → Calls P f (V u).toArray w fun e2 w2 => e2 = .returned z ∧ w.Since w.heap.size w2)
    (hK : wpK P ops w0 Q rest ⟨a.put (some d) z, κ⟩) : wpK P ops w0 Q (o :: rest) ⟨a, κ⟩ :=
  wpK_callV hg f xs tys hop henter z (fun b fp w hw hN hR => by
    have e := args_eq hR (mem_call hop)
    rw [e]
    have h := (hR s (looks_op (mem_call hop _ hin))).some_ hks
    have := hc _ _ w hw hN h.2.2.1
    rw [← hV b] at this
    exact this) (by rw [hd, put_known hkd]; exact hK)
/-- a cell is loaded that lies before the statement's own memory -/
theorem sLoadF (hg : o.guard = none) (hd : o.dst = some d) (hk : κ d = none) (ho : avoidK ⟨a, κ⟩ o = true) (ty : TypeId) (x : Operand) (hop : o.op = .load ty x) (p : Addr) (hx : a.eval x = .pointer (some p)) (val : Value)
    (hS : ∀ v, w0.Since w0.heap.size v → (loadVar ty p).run P v = .ok val v)
    (hK : wpK P ops w0 Q rest ⟨a.put (some d) val, κ⟩) : wpK P ops w0 Q (o :: rest) ⟨a, κ⟩ :=
  sTold hg hd hk ho _ (fun w hw _ => ⟨w, by
    unfold execOp
    simp only [hop, hx, Instr.loadAt, Instr.sureAddr, Sem.run_bind, Sem.run_pure, Result.andThen_ok, hS w hw], World.Since.refl _ _⟩) hK
end
theorem loadF {w : World} {p : Addr} {x : Nat} (h : w.cell? p = some (.float .f32 x)) : (loadVar 33 p).run Try.prog w = .ok (.float .f32 x) w := by
  simp [loadVar, go_sem, h]
end Lk
end Go.Proofs.Ytflpackchlpedaa

/- Loose regions: an operation on a float that is known and one that is told by its properties; what a row is in the end, with its capacity. -/
set_option linter.unusedVariables false
set_option linter.unusedSimpArgs false
namespace Go.Proofs.Ytflpackchlpedaa
open Fl Go.RowKit
theorem Rw.done3 {lo : Nat} {w : World} {v : Value} {k : Nat} {F : Nat → O} (h : Rw lo w v k F) (hk : 0 < k) : ∃ (g c : Nat) (xs : List Nat), v = .slice (some ⟨g, 0, none⟩) k c ∧ k ≤ c ∧ Fs w w.heap.size (some ⟨g, 0, none⟩) k xs ∧ ∀ j, j < k → ab .f32 (wd xs j) = F j := by
  obtain ⟨os, h1, hs, hf⟩ := h
  rcases h1.2 with h2 | ⟨g, cap, cur, e, hg, hb, hnc, _⟩
  · omega
  · subst e
    exact ⟨g, cap, os, rfl, hnc, (Gs.of_own h1 hs).read, hf⟩
namespace Lk
section
variable {P : Program} {ops : Array Oper} {w0 : World} {Q : Fa → Prop} {a : Act} {κ : Nat → Option Kd} {o : Oper} {rest : List Oper} {d : Nat}
theorem sFopY (hg : o.guard = none) (hd : o.dst = some d) (hs : d < a.tmps.size) (op : BinOp) (t t2 : TypeId) (r s : Nat) (hop : o.op = Op.binOp op t (.tmp r) (.tmp s) t2) (hf : isF op = true) (p : Nat) (X Y : O)
    (hkr : κ r = none) (hr : a.tmps.getD r undef = .float .f32 p) (hX : Hid (Fv .f32 p X)) (hks : κ s = some (yF Y)) (hK : wpK P ops w0 Q rest ⟨a.put (some d) undef, upd κ d (some (yF (opO op .f32 X Y)))⟩) : wpK P ops w0 Q (o :: rest) ⟨a, κ⟩ := by
  refine wpK_of_loose (e := ⟨.k (yF (opO op .f32 X Y)), none⟩) hg ⟨fun q hq => (by cases hq), fun b fp w hw hN _ hR => ?_⟩ (by rw [hd, put_some hs]; exact hK)
  have h1 := (hR r (looks_op (by rw [hop]; simp [Op.operands]))).none_ hkr
  have h2 := (hR s (looks_op (by rw [hop]; simp [Op.operands]))).some_ hks
  obtain ⟨q, hq, hY⟩ := h2.2.2.1
  have hx : b.eval (.tmp r) = .float .f32 p := h1.trans hr
  have hy : b.eval (.tmp s) = .float .f32 q := hq
  have e : (execOp b.eval o).run P w = .ok (.value (.float .f32 (ov op .f32 p q w))) (w.drewN (on op .f32 p q)) := by
    have he : eqGuard op t (.tmp r) (.tmp s) (.float .f32 p) (.float .f32 q) = pure () := by
      unfold eqGuard
      cases op <;> simp only [isF] at hf <;> first | (cases hf; done) | rfl
    unfold execOp
    simp only [hop, hx, hy, he, Sem.run_bind, run_fopE hf, Result.andThen_ok, Sem.run_pure]
  rw [e]
  refine ⟨⟨trivial, fun _ => False, ⟨_, rfl, Lib.hid ?_⟩, (fun h => by cases h), fun g hg => hg.elim⟩, since_drewN (World.Since.refl _ _) _⟩
  have := ov_fv hf .f32 p q w
  rw [hX.out.2, hY.out.2] at this
  exact this
end
end Lk
end Go.Proofs.Ytflpackchlpedaa

/- The law of taps. -/
set_option linter.unusedVariables false
set_option linter.unusedSimpArgs false
namespace Go.Proofs.Ytflpackchlpedaa
open Fl Go.RowKit
theorem tapSum_like {x : Nat → TapR} {S T : Nat → O} {k : Nat} (h : ∀ j, j ≤ k + 64 → S j = T j) : ∀ n, tapSum x S k n = tapSum x T k n
  | 0 => rfl
  | n + 1 => by
    show ad (tapSum x S k n) (mu _ (S (k + 64 - (x n).b.toNat))) = ad (tapSum x T k n) (mu _ (T (k + 64 - (x n).b.toNat)))
    rw [tapSum_like h n, h _ (by omega)]
theorem tapSum_shift {x : Nat → TapR} {S : Nat → O} {a k : Nat} : ∀ n, tapsOk x n → tapSum x (fun j => S (a + j)) k n = tapSum x S (a + k) n
  | 0, _ => rfl
  | n + 1, h => by
    have hb := h n (by omega)
    show ad (tapSum x (fun j => S (a + j)) k n) (mu _ (S (a + (k + 64 - (x n).b.toNat)))) = ad (tapSum x S (a + k) n) (mu _ (S (a + k + 64 - (x n).b.toNat)))
    rw [tapSum_shift n (fun j hj => h j (by omega)), show a + (k + 64 - (x n).b.toNat) = a + k + 64 - (x n).b.toNat by omega]
theorem tapS_head (xs ys : List Nat) {a j : Nat} (h : j < 64 + a) : tapS xs (ys.take a) j = tapS xs ys j := by
  unfold tapS
  by_cases h1 : j < 64
  · rw [if_pos h1, if_pos h1]
  · rw [if_neg h1, if_neg h1, wd_take _ _ _ (by omega)]
theorem tapS_tail {xs ys ms : List Nat} {a : Nat} (hm : ∀ i, i < 64 → ab .f32 (wd ms i) = tapS xs ys (a + i)) (j : Nat) : tapS ms (ys.drop a) j = tapS xs ys (a + j) := by
  by_cases h1 : j < 64
  · unfold tapS
    rw [if_pos h1, hm j h1]
    rfl
  · unfold tapS
    rw [if_neg h1, if_neg (by omega), wd_drop, show a + (j - 64) = a + j - 64 by omega]
theorem taps_ok {L : List TapR} (h : ∀ x ∈ L, 0 ≤ x.b ∧ x.b < 8 ∧ x.g < 4294967296) {j : Nat} (hj : j < L.length) : 0 ≤ (L.getD j TapR.zero).b ∧ (L.getD j TapR.zero).b ≤ 64 ∧ (L.getD j TapR.zero).ok := by
  have e : L.getD j TapR.zero = L[j] := by simp [List.getD_eq_getElem?_getD, hj]
  obtain ⟨h1, h2, h3⟩ := h _ (List.getElem_mem hj)
  rw [e]
  exact ⟨h1, by omega, h3⟩
set_option maxHeartbeats 32000000 in
set_option maxRecDepth 100000 in
theorem lawTaps_any (A : Option Addr) (n c : Nat) (xs : List Int) (B : Option Addr) (m d : Nat) (ys : List Int) (w : World) (hA : Bs w w.heap.size A n xs) (hB : Bs w w.heap.size B m ys) :
    Calls Try.prog 3 #[.slice A n c, .slice B m d] w fun e w' => e = .returned (.bool true) ∧ w.Since w.heap.size w' := by
  have HA := Lib.hid hA; have HB := Lib.hid hB; clear hA hB
  cases hl : (decide ((1048576 : Int) < n) || decide ((1048576 : Int) < m))
  case true =>
    go_enter Try.func3, Try.ntmps3
    go_wp2_with fail
    refine (b10Long_any A B n c m d true w hl).mono ?_
    rintro e w1 ⟨rfl, hs⟩
    have S1 := Lib.hid hs; clear hs
    go_wp2
    go_ret
    exact ⟨rfl, S1.out⟩
  case false =>
    have hnm : n ≤ 1048576 ∧ m ≤ 1048576 := by simp only [Bool.or_eq_false_iff, decide_eq_false_iff_not] at hl; omega
    go_enter Try.func3, Try.ntmps3
    go_wp2_with fail
    refine (b10Long_any A B n c m d false w hl).mono ?_
    rintro e w1 ⟨rfl, hs⟩
    have S1 := Lib.hid hs; clear hs hl
    go_wp2_with fail
    refine (taps_any A n c xs w1 ((HA.out.since S1.out (Nat.le_refl _)).more S1.out.size) hnm.1).mono ?_
    rintro e w2 ⟨gt, ct, L, rfl, hL4, hLc, hLx, hrs, hs⟩
    have S2 := Lib.hid (since_step S1.out hs); have T2 := Lib.hid hrs; have HX := Lib.hid hLx
    obtain ⟨t, ht⟩ : ∃ t, Hid (t = L.length) := ⟨_, Lib.hid rfl⟩
    have ht4 : t ≤ 4 := by rw [ht.out]; exact hL4
    rw [← ht.out] at T2 hLc ⊢
    clear hs hrs hLx S1 hL4
    go_wp2_with fail
    refine (b10At_any B m d ys 0 20 w2 ((HB.out.since S2.out (Nat.le_refl _)).more S2.out.size) (by omega) (by omega)).mono ?_
    rintro e w3 ⟨v, rfl, v0, v1, hs⟩
    have S3 := Lib.hid (since_step S2.out hs); have T3 := Lib.hid (T2.out.now hs); clear hs S2 T2
    have hv1 : v < 20 := v1 (by omega)
    obtain ⟨k, rfl⟩ : ∃ k : Nat, v = (k : Int) := ⟨v.toNat, by omega⟩
    have hk : k < 20 := by omega
    clear v0 v1 hv1
    go_wp2_with fail
    refine (numbers_any B m d ys k w3 ((HB.out.since S3.out (Nat.le_refl _)).more S3.out.size) hnm.2 (by omega)).mono ?_
    rintro e w4 ⟨g, cp, zs, rfl, hcp, hg, hs⟩
    have G4 := Lib.hid hg.read
    have S4 := Lib.hid (since_step S3.out hs); have T4 := Lib.hid (T3.out.now hs); clear hs hg S3 T3
    go_wp2_with fail
    refine (b10At_any B m d ys 1 ((k : Int) + 1) w4 ((HB.out.since S4.out (Nat.le_refl _)).more S4.out.size) (by omega) (by omega)).mono ?_
    rintro e w5 ⟨v, rfl, v0, v1, hs⟩
    have S5 := Lib.hid (since_step S4.out hs); have T5 := Lib.hid (T4.out.now hs); have G5 := Lib.hid ((G4.out.since hs).more hs.size); clear hs S4 T4 G4
    have hv1 := v1 (by omega)
    obtain ⟨a, rfl⟩ : ∃ a : Nat, v = (a : Int) := ⟨v.toNat, by omega⟩
    have ha : a ≤ k := by omega
    clear v0 v1 hv1
    go_wp2_with fail
    refine (numbers_any A n c xs 64 w5 ((HA.out.since S5.out (Nat.le_refl _)).more S5.out.size) hnm.1 (by omega)).mono ?_
    rintro e w6 ⟨gp, pp, ps, rfl, hpp, hg, hs⟩
    have P6 := Lib.hid hg.read
    have S6 := Lib.hid (since_step S5.out hs); have T6 := Lib.hid (T5.out.now hs); have G6 := Lib.hid ((G5.out.since hs).more hs.size); clear hs hg S5 T5 G5
    as_aux_lemma =>
      obtain ⟨X, hX⟩ : ∃ X : Nat → TapR, Hid (X = fun j => L.getD j TapR.zero) := ⟨_, Lib.hid rfl⟩
      have XO : Hid (∀ j, j < t → (X j).ok) := Lib.hid (by intro j hj; rw [hX.out]; exact (taps_ok HX.out (by rw [← ht.out]; exact hj)).2.2)
      have XT : Hid (tapsOk X t) := Lib.hid (by intro j hj; rw [hX.out]; have := taps_ok HX.out (show j < L.length by rw [← ht.out]; exact hj); exact ⟨this.1, this.2.1⟩)
      have T6' : Hid (Rs TapR.cells 2 w6 w6.heap.size (some ⟨gt, 0, none⟩) t X) := Lib.hid (by rw [hX.out]; exact T6.out)
      clear T6 hX ht HX
      obtain ⟨Y, hY⟩ : ∃ Y : Nat → O, Hid (Y = fun k => tapSum X (tapS ps zs) k t) := ⟨_, Lib.hid rfl⟩
      have K1 := Lib.hid (show Calls Try.prog 9 #[.slice (some ⟨gt, 0, none⟩) t ct, .slice (some ⟨gp, 0, none⟩) 64 pp, .slice (some ⟨g, 0, none⟩) k cp] w6 (PTT k Y 64 (fun i => tapS ps zs (k + i)) w6) from by
        rw [hY.out]
        exact implRunTaps_any gt t ct X (some ⟨gp, 0, none⟩) pp ps (some ⟨g, 0, none⟩) k cp zs w6 T6'.out XO.out ⟨XT.out, by omega⟩ P6.out G6.out (by omega))
      go_wp2_with fail
      refine K1.out.mono ?_
      rintro e w7 ⟨g1, h1, o1, e1, c1, d1, rfl, hg1, hh1, hf1, he1, hs⟩
      have S7 := Lib.hid (since_step S6.out hs); have T7 := Lib.hid (T6'.out.now hs); have G7 := Lib.hid ((G6.out.since hs).more hs.size); have P7 := Lib.hid ((P6.out.since hs).more hs.size)
      have O7 := Lib.hid hg1; have E7 := Lib.hid hh1; have F1 := Lib.hid hf1; have H1 := Lib.hid he1
      clear hs hg1 hh1 hf1 he1 S6 T6' G6 P6 K1
      have K2 := Lib.hid (show Calls Try.prog 9 #[.slice (some ⟨gt, 0, none⟩) t ct, .slice (some ⟨gp, 0, none⟩) 64 pp, .slice (some ⟨g, 0, none⟩) a cp] w7 (PTT a (fun k => tapSum X (tapS ps (zs.take a)) k t) 64 (fun i => tapS ps (zs.take a) (a + i)) w7) from
        implRunTaps_any gt t ct X (some ⟨gp, 0, none⟩) pp ps (some ⟨g, 0, none⟩) a cp (zs.take a) w7 T7.out XO.out ⟨XT.out, by omega⟩ P7.out (Fs.head G7.out ha) (by omega))
      go_wp2_with fail
      refine K2.out.mono ?_
      rintro e w8 ⟨g2, h2, o2, e2, c2, d2, rfl, hg2, hh2, hf2, he2, hs⟩
      have S8 := Lib.hid (since_step S7.out hs); have T8 := Lib.hid (T7.out.now hs); have G8 := Lib.hid ((G7.out.since hs).more hs.size)
      have O8 := Lib.hid ((O7.out.since hs).more hs.size); have E8 := Lib.hid ((E7.out.since hs).more hs.size)
      have Q8 := Lib.hid hg2; have M8 := Lib.hid hh2
      have F2 : Hid (∀ j, j < a → ab .f32 (wd o2 j) = Y j) := Lib.hid (fun j hj => by rw [hf2 j hj, hY.out]; exact tapSum_like (fun i hi => tapS_head _ _ (by omega)) t)
      have HM : Hid (∀ i, i < 64 → ab .f32 (wd e2 i) = tapS ps zs (a + i)) := Lib.hid (fun i hi => by rw [he2 i hi]; exact tapS_head _ _ (by omega))
      clear hs hg2 hh2 hf2 he2 S7 T7 G7 P7 O7 E7 K2
      have K3 := Lib.hid (show ∀ (A' : Option Addr) (c' : Nat), (A' = some ⟨g, a, none⟩ ∨ k - a = 0) → Calls Try.prog 9 #[.slice (some ⟨gt, 0, none⟩) t ct, .slice (some ⟨h2, 0, none⟩) 64 d2, .slice A' (k - a) c'] w8 (PTT (k - a) (fun j => Y (a + j)) 64 (fun i => tapS ps zs (k + i)) w8) from by
        intro A' c' hA'
        have hf : Fs w8 w8.heap.size A' (k - a) (zs.drop a) := by
          rcases hA' with rfl | h0
          · exact Fs.tail0 G8.out ha
          · have := Fs.tail0 G8.out ha; exact ⟨this.1, this.2.1, fun h => by omega⟩
        have h1 := implRunTaps_any gt t ct X (some ⟨h2, 0, none⟩) d2 e2 A' (k - a) c' (zs.drop a) w8 T8.out XO.out ⟨XT.out, by omega⟩ M8.out hf (by omega)
        have es : tapS e2 (zs.drop a) = fun j => tapS ps zs (a + j) := by funext j; exact tapS_tail HM.out j
        rw [es] at h1
        have e3 : (fun k_1 => tapSum X (fun j => tapS ps zs (a + j)) k_1 t) = fun j => Y (a + j) := by funext j; rw [hY.out]; exact tapSum_shift t XT.out
        have e4 : (fun i => tapS ps zs (a + (k - a + i))) = fun i => tapS ps zs (k + i) := by funext i; rw [show a + (k - a + i) = k + i by omega]
        rw [e3] at h1
        rw [← e4]
        exact h1)
      go_wp2_with fail
      case' inl => refine (K3.out (some ⟨g, 0, none⟩) 0 (.inr (by omega))).mono ?_
      case' inr => refine (K3.out (some ⟨g, a, none⟩) (cp - a) (.inl rfl)).mono ?_
      all_goals
        rintro e w9 ⟨g3, h3, o3, e3, c3, d3, rfl, hg3, hh3, hf3, he3, hs⟩
        have S9 := Lib.hid (since_step S8.out hs); have T9 := Lib.hid (T8.out.now hs); have G9 := Lib.hid ((G8.out.since hs).more hs.size)
        have O9 := Lib.hid ((O8.out.since hs).more hs.size); have E9 := Lib.hid ((E8.out.since hs).more hs.size); have Q9 := Lib.hid ((Q8.out.since hs).more hs.size)
        have R9 := Lib.hid hg3; have N9 := Lib.hid hh3
        have F3 : Hid (∀ j, j < k - a → ab .f32 (wd o3 j) = Y (a + j)) := Lib.hid hf3
        have H3 := Lib.hid he3
        clear hs hg3 hh3 hf3 he3 S8 T8 G8 O8 E8 Q8 M8 K3 HM
        as_aux_lemma =>
          go_wp2_with (first
            | (go_at_call 10; refine (implValidTaps_b (some ⟨gt, 0, none⟩) t ct X true w9 T9.out (by omega) (by simp only [true_iff]; exact ⟨XT.out, by omega⟩)).mono ?_; rintro e wv ⟨rfl, hs⟩; have V0 := Lib.hid hs; clear hs)
            | (at_builtin; refine wpList_yes rfl ?_; refine wpList_appN rfl (.tmp 87) (.tmp 88) rfl wv.heap.size _ 0 Y rfl _ _ _ o2 _ rfl (by simp) (Lib.hid ((Q9.out.since V0.out).since (since_mono ((World.Since.refl _ _).alloc (Nat.le_refl _) _) V0.out.size))) (fun j hj => by rw [Nat.zero_add]; exact (F2.out j hj).symm) (by omega) (by simp) (Rw.start wv _ (Nat.le_refl _) _) ?_; intro v1 wa hRa hSa; have Ha := Lib.hid (((World.Since.refl wv.heap.size wv).alloc (Nat.le_refl _) _).trans hSa.out); clear hSa)
            | (at_builtin; refine wpList_yes rfl ?_; refine wpList_appN rfl (.tmp 89) (.tmp 90) rfl wv.heap.size _ (0 + a) Y rfl _ _ _ o3 _ rfl (by simp) (Lib.hid ((R9.out.since V0.out).since (since_mono Ha.out V0.out.size))) (fun j hj => by rw [Nat.zero_add]; exact (F3.out j hj).symm) (by omega) Ha.out.size hRa.out ?_; intro v2 wb hRb hSb; have Hb := Lib.hid (Ha.out.trans hSb.out); clear hSb; obtain ⟨⟨pA, pn, px⟩, cq, rfl, hpn, hgp, hap⟩ := hRb.out.done; simp only at hpn hgp; have hpk : k = pn := (by omega); subst hpk; have GP := Lib.hid hgp.read; have AP := Lib.hid hap; have V1 := Lib.hid (V0.out.trans (since_mono Hb.out V0.out.size)); clear hgp hap hRa hRb hpn)
            | (go_at_call 11; refine (b10Same_any pA (some ⟨g1, 0, none⟩) k _ _ px o1 wb GP.out ((O9.out.since V1.out).more V1.out.size) (by omega) (fun j hj => (AP.out j hj).trans (F1.out j hj).symm)).mono ?_; rintro e wc ⟨rfl, hs⟩; have V2 := Lib.hid (V1.out.trans (since_mono hs V1.out.size)); clear hs GP AP)
            | (go_at_call 11; refine (b10Same_any (some ⟨h1, 0, none⟩) (some ⟨h3, 0, none⟩) 64 _ _ e1 e3 wc ((E9.out.since V2.out).more V2.out.size) ((N9.out.since V2.out).more V2.out.size) (by omega) (fun j hj => (H1.out j hj).trans (H3.out j hj).symm)).mono ?_; rintro e we ⟨rfl, hs⟩; have V3 := Lib.hid (V2.out.trans (since_mono hs V2.out.size)); clear hs))
          have S10 := Lib.hid (since_step S9.out V3.out); have G10 := Lib.hid ((G9.out.since V3.out).more V3.out.size)
          clear V0 V1 V2 V3 S9 G9 T9 O9 E9 Q9 R9 N9 F1 F2 F3 H1 H3 Ha Hb hpp hLc
          as_aux_lemma =>
            refine (b10At_any B m d ys 2 6 we ((HB.out.since S10.out (Nat.le_refl _)).more S10.out.size) (by omega) (by omega)).mono ?_
            rintro e w11 ⟨v, rfl, v0, v1, hs⟩
            have S11 := Lib.hid (since_step S10.out hs); have G11 := Lib.hid ((G10.out.since hs).more hs.size); clear hs S10 G10
            have hv1 := v1 (by omega)
            obtain ⟨bk, ebk, hb1, hb6⟩ : ∃ bk : Nat, 1 + v = (bk : Int) ∧ 1 ≤ bk ∧ bk ≤ 6 := ⟨(1 + v).toNat, by omega, by omega, by omega⟩
            have DB : Hid (1 ≤ bk ∧ bk ≤ 6) := Lib.hid ⟨hb1, hb6⟩
            go_wp2_with fail
            clear v0 v1 hv1 ebk hb1 hb6
            refine (B10Plain_any B m d ys w11 ((HB.out.since S11.out (Nat.le_refl _)).more S11.out.size) hnm.2).mono ?_
            rintro e w12 ⟨mx, MX, rfl, hmx, hpl, hs⟩
            have S12 := Lib.hid (since_step S11.out hs); have G12 := Lib.hid ((G11.out.since hs).more hs.size); have HMX : Hid (Fv .f32 mx MX) := hmx; clear hs S11 G11 hmx hpl
            go_wp2_with fail
            refine (numbers_any A n c xs 6 w12 ((HA.out.since S12.out (Nat.le_refl _)).more S12.out.size) hnm.1 (by omega)).mono ?_
            rintro e w13 ⟨gl, cl, ls, rfl, hcl, hg, hs⟩
            have L13 := Lib.hid hg.read
            have S13 := Lib.hid (since_step S12.out hs); have G13 := Lib.hid ((G12.out.since hs).more hs.size); clear hs hg S12 G12
            go_wp2_with fail
            generalize hW : World.alloc w13 _ = W14
            obtain ⟨bt, hbt⟩ : ∃ q, Hid (q = w13.heap.size) := ⟨_, Lib.hid rfl⟩
            have hs : w13.Since w13.heap.size W14 := by rw [← hW]; exact (World.Since.refl _ _).alloc (Nat.le_refl _) _
            have I14 : Hid (Is W14 W14.heap.size (some ⟨bt, 0, none⟩) 1 [(bk : Int)]) := Lib.hid ⟨rfl, fun _ => ⟨bt, 0, rfl, by rw [← hW, hbt.out]; simp, fun j hj => by
              obtain rfl : j = 0 := by omega
              rw [← hW, hbt.out]
              simp [iv, wi, go_sem]⟩⟩
            have S14 := Lib.hid (since_step S13.out hs); have G14 := Lib.hid ((G13.out.since hs).more hs.size); have L14 := Lib.hid ((L13.out.since hs).more hs.size)
            rw [← hbt.out]
            clear hW hs hbt S13 G13 L13
            refine (implRunChorus_any bt 1 [(bk : Int)] mx (some ⟨gl, 0, none⟩) 6 cl ls 0 (some ⟨g, 0, none⟩) k _ zs W14 I14.out L14.out G14.out (by decide) (by decide) HMX.out.1 (by omega) (by omega) (by
              intro j hj
              obtain rfl : j = 0 := by omega
              have := DB.out
              simp [wi]; omega)).mono ?_
            rintro e w15 ⟨g4, h4, o4, e4, c4, d4, rfl, hg4, hh4, hf4, he4, hs⟩
            have S15 := Lib.hid (since_step S14.out hs); have G15 := Lib.hid ((G14.out.since hs).more hs.size); have L15 := Lib.hid ((L14.out.since hs).more hs.size)
            have Y15 := Lib.hid hg4; have K15 := Lib.hid hh4
            have FY : Hid (∀ j, j < k → ab .f32 (wd o4 j) = ad (ab .f32 (wd zs j)) (mu MX (chS 6 ls zs (j + 6 - bk)))) := Lib.hid (fun j hj => by
              rw [hf4 j hj]
              unfold chY
              dsimp only
              rw [HMX.out.2, show chD [(bk : Int)] 1 0 j = bk by unfold chD; rw [Nat.mod_one]; simp [wi]])
            have FK := Lib.hid he4
            clear hs hg4 hh4 hf4 he4 S14 G14 L14 I14
            as_aux_lemma =>
              go_wp2_with (first
                | (at_builtin; refine wpList_appN rfl (.tmp 132) (.tmp 133) rfl w15.heap.size _ 0 (chS 6 ls zs) rfl _ _ _ ls _ rfl (by simp) (Lib.hid (L15.out.since ((World.Since.refl _ _).alloc (Nat.le_refl _) _))) (fun j hj => by rw [Nat.zero_add]; exact chS_old hj) (by omega) (by simp) (Rw.start w15 _ (Nat.le_refl _) _) ?_; intro v1 wa hRa hSa; have Ha := Lib.hid (((World.Since.refl w15.heap.size w15).alloc (Nat.le_refl _) _).trans hSa.out); clear hSa)
                | (at_builtin; refine wpList_appN rfl (.tmp 134) (.tmp 135) rfl w15.heap.size _ (0 + 6) (chS 6 ls zs) rfl _ _ _ zs _ rfl (by simp) (Lib.hid (G15.out.since Ha.out)) (fun j hj => by rw [show 0 + 6 + j = j + 6 by omega]; exact chS_new 6 ls zs j) (by omega) Ha.out.size hRa.out ?_; intro v2 wb hRb hSb; have Hb := Lib.hid (Ha.out.trans hSb.out); clear hSb; obtain ⟨gw, cq, px, rfl, hcq, hgp, hap⟩ := hRb.out.done3 (by omega); have GP := Lib.hid hgp; have AP := Lib.hid hap; clear hgp hap hRa hRb))
              have S16 := Lib.hid (since_step S15.out Hb.out); have G16 := Lib.hid ((G15.out.since Hb.out).more Hb.out.size)
              have Y16 := Lib.hid ((Y15.out.since Hb.out).more Hb.out.size); have K16 := Lib.hid ((K15.out.since Hb.out).more Hb.out.size)
              clear S15 G15 L15 Y15 K15 Ha Hb
              go_loopw [26] (fun i wr => ∃ j : Nat, j ≤ k ∧ i = .int .i64 (j : Int) ∧ wb.Since wb.heap.size wr) (fun i _ => k - (intOf i).toNat)
              case atStart => exact ⟨0, Nat.zero_le _, rfl, World.Since.refl _ _⟩
              case round =>
                obtain ⟨j, hj, rfl, hs⟩ := hrel
                have SW := Lib.hid hs; clear hs
                by_cases hlt : j < k
                · skip
                  as_aux_lemma =>
                    obtain ⟨q, hq, hqk, hq2⟩ : ∃ q : Nat, (6 : Int) + (j : Int) - (bk : Int) = (q : Int) ∧ q < 0 + 6 + k ∧ q = j + 6 - bk := ⟨j + 6 - bk, by have := DB.out; omega, by have := DB.out; omega, rfl⟩
                    obtain ⟨cx, bx⟩ := Fs.cell0 G16.out hlt
                    obtain ⟨cy, by_⟩ := Fs.cell0 Y16.out hlt
                    obtain ⟨cw, bw⟩ := Fs.cell0 GP.out hqk
                    have zo := SW.out.size
                    have kx : wr.cell? ⟨g, j, none⟩ = some (.float .f32 (wd zs j)) := (SW.out.cell (a := ⟨g, j, none⟩) bx).trans cx
                    have ky : wr.cell? ⟨g4, j, none⟩ = some (.float .f32 (wd o4 j)) := (SW.out.cell (a := ⟨g4, j, none⟩) by_).trans cy
                    have kw : wr.cell? ⟨gw, q, none⟩ = some (.float .f32 (wd px q)) := (SW.out.cell (a := ⟨gw, q, none⟩) bw).trans cw
                    have lx : g < wr.heap.size := Nat.lt_of_lt_of_le bx zo
                    have ly : g4 < wr.heap.size := Nat.lt_of_lt_of_le by_ zo
                    have lw : gw < wr.heap.size := Nat.lt_of_lt_of_le bw zo
                    have hX : Hid (Fv .f32 (wd zs j) (ab .f32 (wd zs j))) := Lib.hid ⟨G16.out.2.1.at_ j, rfl⟩
                    have hW : Hid (Fv .f32 (wd px q) (chS 6 ls zs q)) := Lib.hid ⟨GP.out.2.1.at_ q, AP.out q hqk⟩
                    have b1 := Y16.out.2.1.at_ j
                    have CS := Lib.hid (show ∀ (u : Value) (v : World), (∃ r : Nat, u = .float .f32 r ∧ Hid (Fv .f32 r (opO .add .f32 (ab .f32 (wd zs j)) (opO .mul .f32 MX (chS 6 ls zs q))))) → Calls Try.prog 14 #[.float .f32 (wd o4 j), u] v fun e2 w2 => e2 = .returned (.bool true) ∧ v.Since v.heap.size w2 from by
                      rintro u v ⟨r, rfl, hr⟩
                      refine (specSame_any (wd o4 j) r v b1 hr.out.1).mono ?_
                      rintro e2 w2 ⟨rfl, rfl⟩
                      refine ⟨?_, World.Since.refl _ _⟩
                      have h1 : ab .f32 (wd o4 j) = opO .add .f32 (ab .f32 (wd zs j)) (opO .mul .f32 MX (chS 6 ls zs q)) := by rw [FY.out j hlt, hq2]
                      rw [hr.out.2, h1, decide_eq_true rfl])
                    clear cx cy cw bx by_ bw hq2
                    go_wp2_with fail
                    refine Lk.wp_k (by kernel_rfl) (by kernel_rfl) (by kernel_rfl) ?_
                    repeat (first
                      | (refine Lk.sLoadF rfl rfl rfl rfl 33 _ rfl ⟨g4, j, none⟩ rfl (.float .f32 (wd o4 j)) (fun v hv => Lk.loadF ((hv.cell (a := ⟨g4, j, none⟩) ly).trans ky)) ?_; (try simp only [Act.eval, Act.put, Lk.Va.val, Lk.Va.kd, List.setIfInBounds_toArray, List.set_cons_succ, List.set_cons_zero, Array.getD_eq_getD_getElem?, List.getElem?_toArray, List.getElem?_cons_succ, List.getElem?_cons_zero, Option.getD_some]))
                      | (refine Lk.sLoadF rfl rfl rfl rfl 33 _ rfl ⟨g, j, none⟩ rfl (.float .f32 (wd zs j)) (fun v hv => Lk.loadF ((hv.cell (a := ⟨g, j, none⟩) lx).trans kx)) ?_; (try simp only [Act.eval, Act.put, Lk.Va.val, Lk.Va.kd, List.setIfInBounds_toArray, List.set_cons_succ, List.set_cons_zero, Array.getD_eq_getD_getElem?, List.getElem?_toArray, List.getElem?_cons_succ, List.getElem?_cons_zero, Option.getD_some]))
                      | (refine Lk.sLoadF rfl rfl rfl rfl 33 _ rfl ⟨gw, q, none⟩ rfl (.float .f32 (wd px q)) (fun v hv => Lk.loadF ((hv.cell (a := ⟨gw, q, none⟩) lw).trans kw)) ?_; (try simp only [Act.eval, Act.put, Lk.Va.val, Lk.Va.kd, List.setIfInBounds_toArray, List.set_cons_succ, List.set_cons_zero, Array.getD_eq_getD_getElem?, List.getElem?_toArray, List.getElem?_cons_succ, List.getElem?_cons_zero, Option.getD_some]))
                      | (refine Lk.sFop rfl rfl (of_decide_eq_true rfl) rfl .mul _ _ _ _ rfl rfl mx (wd px q) MX (chS 6 ls zs q) rfl rfl HMX hW ?_; (try simp only [Act.eval, Act.put, Lk.Va.val, Lk.Va.kd, List.setIfInBounds_toArray, List.set_cons_succ, List.set_cons_zero, Array.getD_eq_getD_getElem?, List.getElem?_toArray, List.getElem?_cons_succ, List.getElem?_cons_zero, Option.getD_some]))
                      | (refine Lk.sFopY rfl rfl (of_decide_eq_true rfl) .add _ _ 149 158 rfl rfl (wd zs j) (ab .f32 (wd zs j)) (opO .mul .f32 MX (chS 6 ls zs q)) rfl rfl hX rfl ?_; (try simp only [Act.eval, Act.put, Lk.Va.val, Lk.Va.kd, List.setIfInBounds_toArray, List.set_cons_succ, List.set_cons_zero, Array.getD_eq_getD_getElem?, List.getElem?_toArray, List.getElem?_cons_succ, List.getElem?_cons_zero, Option.getD_some]))
                      | (refine Lk.sCall1V rfl rfl rfl 14 [.tmp 145, .tmp 159] _ rfl (callsEnter 14 Try.f14 _ (by kernel_rfl) (by kernel_rfl) rfl) 159 (by simp) (Lk.yF (opO .add .f32 (ab .f32 (wd zs j)) (opO .mul .f32 MX (chS 6 ls zs q)))) rfl (fun u => [.float .f32 (wd o4 j), u]) (fun b => rfl) (.bool true) (fun u S v hS hN hp => CS.out u v hp) ?_; (try simp only [Act.eval, Act.put, Lk.Va.val, Lk.Va.kd, List.setIfInBounds_toArray, List.set_cons_succ, List.set_cons_zero, Array.getD_eq_getD_getElem?, List.getElem?_toArray, List.getElem?_cons_succ, List.getElem?_cons_zero, Option.getD_some]))
                      | (refine Lk.sMove rfl rfl rfl rfl _ (.inl rfl) ?_; simp only [Act.eval, Act.put, Lk.Va.val, Lk.Va.kd, List.setIfInBounds_toArray, List.set_cons_succ, List.set_cons_zero, Array.getD_eq_getD_getElem?, List.getElem?_toArray, List.getElem?_cons_succ, List.getElem?_cons_zero, Option.getD_some])
                      | (refine Lk.sMove rfl rfl rfl rfl _ (.inr rfl) ?_; simp only [Act.eval, Act.put, Lk.Va.val, Lk.Va.kd, List.setIfInBounds_toArray, List.set_cons_succ, List.set_cons_zero, Array.getD_eq_getD_getElem?, List.getElem?_toArray, List.getElem?_cons_succ, List.getElem?_cons_zero, Option.getD_some])
                      | (refine Lk.sCopy rfl rfl (of_decide_eq_true rfl) _ (.inl rfl) _ rfl rfl ?_; simp only [Act.eval, Act.put, Lk.Va.val, Lk.Va.kd, List.setIfInBounds_toArray, List.set_cons_succ, List.set_cons_zero, Array.getD_eq_getD_getElem?, List.getElem?_toArray, List.getElem?_cons_succ, List.getElem?_cons_zero, Option.getD_some])
                      | (refine Lk.sCopy rfl rfl (of_decide_eq_true rfl) _ (.inr rfl) _ rfl rfl ?_; simp only [Act.eval, Act.put, Lk.Va.val, Lk.Va.kd, List.setIfInBounds_toArray, List.set_cons_succ, List.set_cons_zero, Array.getD_eq_getD_getElem?, List.getElem?_toArray, List.getElem?_cons_succ, List.getElem?_cons_zero, Option.getD_some])
                      | (refine Lk.sQuiet rfl rfl rfl rfl rfl (fun K hK => ?_); go_big_quiet_op; first | (with_reducible refine ⟨_, fun _ _ => rfl, hK _ ?_⟩; clear hK K) | (refine hK _ ?_; clear hK K)))
                    refine Lk.wpK_nil ?_
                    refine Lk.After.slot 158 _ rfl ?_; intro u158 _; simp only [Act.eval, Act.put, Lk.Va.val, Lk.Va.kd, List.setIfInBounds_toArray, List.set_cons_succ, List.set_cons_zero, Array.getD_eq_getD_getElem?, List.getElem?_toArray, List.getElem?_cons_succ, List.getElem?_cons_zero, Option.getD_some]
                    refine Lk.After.slot 159 _ rfl ?_; intro u159 _; simp only [Act.eval, Act.put, Lk.Va.val, Lk.Va.kd, List.setIfInBounds_toArray, List.set_cons_succ, List.set_cons_zero, Array.getD_eq_getD_getElem?, List.getElem?_toArray, List.getElem?_cons_succ, List.getElem?_cons_zero, Option.getD_some]
                    refine Lk.After.end_ [158, 159] (by repeat (first | exact Lk.nbut.start | refine Lk.nbut.upd (by simp) ?_)) rfl ?_
                    intro fpK wK hwK
                    intro hK159 hB159 hX159
                    intro hK158 hB158 hX158
                    have ST := Lib.hid (SW.out.trans (since_mono hwK SW.out.size))
                    clear hK158 hB158 hX158 hK159 hB159 hX159 hwK fpK CS kx ky kw
                    go_wp2_with fail
                    refine ⟨⟨j + 1, by omega, by go_num, ST.out⟩, by simp [intOf]; omega⟩
                · obtain rfl : j = k := by omega
                  go_wp2_with fail
                  have KF : Fs wr wr.heap.size (some ⟨h4, 0, none⟩) 6 e4 := (K16.out.since SW.out).more SW.out.size
                  have GF1 : Fs wr wr.heap.size (some ⟨gw, j, none⟩) 6 (px.drop j) := by
                    have := Fs.tail0 ((GP.out.since SW.out).more SW.out.size) (show j ≤ 0 + 6 + j by omega)
                    rw [show 0 + 6 + j - j = 6 by omega] at this
                    exact this
                  refine (b10Same_any (some ⟨h4, 0, none⟩) (some ⟨gw, j, none⟩) 6 d4 _ e4 (px.drop j) wr KF GF1 (by omega) (fun i hi => by
                    rw [FK.out i hi, wd_drop, AP.out (j + i) (by omega)])).mono ?_
                  rintro e wz ⟨rfl, hs⟩
                  have SZ := Lib.hid (since_step (S16.out.trans (since_mono SW.out S16.out.size)) hs)
                  clear hs KF GF1
                  go_wp2
                  go_ret
                  exact ⟨rfl, SZ.out⟩
end Go.Proofs.Ytflpackchlpedaa

