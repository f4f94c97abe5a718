/- Joined: Ge Gn Gp Gq Gu Ly Ja Ha Hb Ta Gv Gw Gs Lm Gg Hc Hd He Hf Hg Jk Hh Hn Uh Ft K1 P1 K2 K21 K22 Ho Gm Hi Hj Hp Fz Gi K23 -/
import Derived.Test.YtipdgnhbmfmhnaaGd
import Derived.Test.YtipdgnhbmfmhnaaEc
import Derived.Test.YtipdgnhbmfmhnaaRz
import Derived.Test.YtipdgnhbmfmhnaaLx
import Derived.Test.YtipdgnhbmfmhnaaEp
import Derived.Laws.AppendOwnNone
import Derived.Lib.SliceRun
import Derived.Deep.DeepCutAuto
import Derived.Test.YtipdgnhbmfmhnaaLl
import Derived.Test.YtipdgnhbmfmhnaaIl
import Derived.Test.YtipdgnhbmfmhnaaDl
import Derived.BigQuiet
import Derived.Test.YtipdgnhbmfmhnaaEg
import Derived.Test.YtipdgnhbmfmhnaaSc
import Derived.Test.YtipdgnhbmfmhnaaFr
import Derived.Deep.MidRow
import Derived.Laws.StructEq
import Derived.ScopeJumps
import Derived.WalkMore
import Derived.Deep.LoopGhost
import Derived.Test.YtipdgnhbmfmhnaaFw
import Derived.Test.YtipdgnhbmfmhnaaEo
import Derived.Laws.Small
import Derived.Laws.Cover2
import Derived.Test.YtipdgnhbmfmhnaaEi
import Derived.Test.YtipdgnhbmfmhnaaSm
/- A filter's step at the face: the model's, the program's, the law. -/
set_option linter.unusedVariables false
set_option linter.unusedSimpArgs false
namespace Go.Proofs.Ytipdgnhbmfmhnaa
open Fl Go.RowKit
def FSPost (w : World) (ok : Bool) (Y : O) (M : Mem) (e : Ending) (w' : World) : Prop :=
  ∃ (y : Nat) (m : MemN), e = .returned (.tuple #[.float .f32 y, m.val, .bool ok]) ∧ Hid (Fv .f32 y Y) ∧ FvM m M ∧ w.Since w.heap.size w'
@[go_sem] theorem MemN.val_mk (a b c d : Nat) : MemN.val ⟨a, b, c, d⟩ = .agg #[.float .f32 a, .float .f32 b, .float .f32 c, .float .f32 d] := rfl
theorem sinUD {w v : World} (h : w.drew.Since w.drew.heap.size v) : w.Since w.heap.size v := ⟨h.os, h.tape, h.output, h.size, h.block⟩
def noM : Mem := ⟨some 0, some 0, some 0, some 0⟩
theorem fvNo : FvM ⟨0, 0, 0, 0⟩ noM := ⟨fvZ, fvZ, fvZ, fvZ⟩
theorem stepOf_out (n : Int) (w : World) (h : inB n 0 2 = false) : Calls Try.prog 13 #[.int .i64 n] w fun e w' => e = .returned (.tuple #[.nilFunc, .bool false]) ∧ w = w' := by
  have h0 : (n == 0) = false := by rw [beq_eq_false_iff_ne]; rintro rfl; exact absurd h (by decide)
  have h1 : (n == 1) = false := by rw [beq_eq_false_iff_ne]; rintro rfl; exact absurd h (by decide)
  have h2 : (n == 2) = false := by rw [beq_eq_false_iff_ne]; rintro rfl; exact absurd h (by decide)
  clear h
  go_enter Try.func13, Try.ntmps13
  go_wp2
  go_ret2
  exact ⟨rfl, rfl⟩
set_option maxRecDepth 100000 in
theorem implFS_out (f : FilN) (n : Int) (fu : Bool) (m : MemN) (x : Nat) (w : World) (h : inB n 0 2 = false) :
    Calls Try.prog 10 #[f.val, .int .i64 n, .bool fu, m.val, .float .f32 x] w (FSPost w false (some 0) noM) := by
  obtain ⟨b0, b1, b2, a1, a2⟩ := f
  obtain ⟨ma, mb, mc, md⟩ := m
  unfold MemN.val FilN.val
  go_enter Try.func10, Try.ntmps10
  go_wp2_with (go_at_call 13; refine (stepOf_out _ _ h).mono ?_; rintro e w' ⟨rfl, rfl⟩)
  exact bodyPost_ret (v := .tuple #[.float .f32 0, .agg #[.float .f32 0, .float .f32 0, .float .f32 0, .float .f32 0], .bool false]) (by simp [results, Try.results10, go_sem]) rfl ⟨0, ⟨0, 0, 0, 0⟩, rfl, fvZ, fvNo, by (repeat (first | (with_reducible refine Fl.sinDrew ?_) | (with_reducible refine World.Since.drew ?_) | (with_reducible refine Fl.sinSet ?_ ?_; rotate_left) | (with_reducible refine Fl.sinAlloc ?_ ?_; rotate_left) | with_reducible exact World.Since.refl _ _ | with_reducible assumption | (with_reducible refine Fl.sinStep (by with_reducible assumption) ?_))); all_goals (first | omega | (simp; done) | (simp; omega) | (simp [go_sem]; done) | (simp [go_sem]; omega))⟩

theorem stepOf_Dir (w : World) : Calls Try.prog 13 #[.int .i64 0] w fun e w' => e = .returned (.tuple #[.func (.func 20) #[] #[], .bool true]) ∧ w = w' := by
  go_enter Try.func13, Try.ntmps13
  go_wp2
  go_ret2
  exact ⟨rfl, rfl⟩
theorem stepOf_Tur (w : World) : Calls Try.prog 13 #[.int .i64 1] w fun e w' => e = .returned (.tuple #[.func (.func 21) #[] #[], .bool true]) ∧ w = w' := by
  go_enter Try.func13, Try.ntmps13
  go_wp2
  go_ret2
  exact ⟨rfl, rfl⟩
theorem stepOf_Can (w : World) : Calls Try.prog 13 #[.int .i64 2] w fun e w' => e = .returned (.tuple #[.func (.func 22) #[] #[], .bool true]) ∧ w = w' := by
  go_enter Try.func13, Try.ntmps13
  go_wp2
  go_ret2
  exact ⟨rfl, rfl⟩
set_option maxHeartbeats 16000000 in
set_option maxRecDepth 100000 in
theorem implFS_gen (k : FuncId) (n : Int) (f : FilN) (fu : Bool) (m : MemN) (x : Nat) (Y : O) (M : Mem) (w : World)
    (hso : ∀ w, Calls Try.prog 13 #[.int .i64 n] w fun e w' => e = .returned (.tuple #[.func (.func k) #[] #[], .bool true]) ∧ w = w')
    (hst : ∀ w, Calls Try.prog 15 #[setV f fu, .func (.func k) #[] #[], m.val, .float .f32 x] w (StepPost w Y M)) :
    Calls Try.prog 10 #[f.val, .int .i64 n, .bool fu, m.val, .float .f32 x] w (FSPost w true Y M) := by
  have hco := cellsOf_any m
  obtain ⟨b0, b1, b2, a1, a2⟩ := f
  obtain ⟨ma, mb, mc, md⟩ := m
  unfold setV at hst
  unfold MemN.val at *
  unfold FilN.val at *
  have HT := Lib.hid hst; clear hst
  have HCO := Lib.hid hco; clear hco
  have HSO := Lib.hid hso; clear hso
  go_enter Try.func10, Try.ntmps10
  go_wp2_with (go_at_call 13; refine (HSO.out _).mono ?_; rintro e w' ⟨rfl, rfl⟩)
  go_region_with (first | (go_at_call 14; refine (HCO.out _).mono ?_; rintro e w1 ⟨rfl, hs⟩; (try replace hs := sinUD hs); have y10 : w.heap.size < w1.heap.size := (by have hsz := hs.size; (try simp only [World.drew, World.drewN, Go.Deep.nblk_alloc, Go.Deep.nblk_setCell] at hsz); omega); have y11 : w.heap.size + 1 < w1.heap.size := (by have hsz := hs.size; (try simp only [World.drew, World.drewN, Go.Deep.nblk_alloc, Go.Deep.nblk_setCell] at hsz); omega); have y12 : w.heap.size + 1 + 1 < w1.heap.size := (by have hsz := hs.size; (try simp only [World.drew, World.drewN, Go.Deep.nblk_alloc, Go.Deep.nblk_setCell] at hsz); omega); (try have y13 : w.heap.size + 1 + 1 + 1 < w1.heap.size := (by have hsz := hs.size; (try simp only [World.drew, World.drewN, Go.Deep.nblk_alloc, Go.Deep.nblk_setCell] at hsz); omega)); obtain ⟨hc1, hf1⟩ := Fl.sinCell hs; have S1 := Lib.hid hs; clear hs) | (go_at_call 15; refine (HT.out _).mono ?_; rintro e w2 ⟨y, ⟨ra, rb, rc, rd⟩, rfl, hy, hm, hs⟩; (try replace hs := sinUD hs); have y20 : w.heap.size < w2.heap.size := (by have hsz := hs.size; (try simp only [World.drew, World.drewN, Go.Deep.nblk_alloc, Go.Deep.nblk_setCell] at hsz); omega); have y21 : w.heap.size + 1 < w2.heap.size := (by have hsz := hs.size; (try simp only [World.drew, World.drewN, Go.Deep.nblk_alloc, Go.Deep.nblk_setCell] at hsz); omega); have y22 : w.heap.size + 1 + 1 < w2.heap.size := (by have hsz := hs.size; (try simp only [World.drew, World.drewN, Go.Deep.nblk_alloc, Go.Deep.nblk_setCell] at hsz); omega); (try have y23 : w.heap.size + 1 + 1 + 1 < w2.heap.size := (by have hsz := hs.size; (try simp only [World.drew, World.drewN, Go.Deep.nblk_alloc, Go.Deep.nblk_setCell] at hsz); omega)); obtain ⟨hc2, hf2⟩ := Fl.sinCell hs; have S2 := Lib.hid hs; clear hs; have HMV := Lib.hid hm; clear hm; simp only [MemN.val_mk]))
  all_goals
    go_wp2_with (go_at_call 17; refine (memory_any ⟨ra, rb, rc, rd⟩ _).mono ?_; simp only [MemN.val_mk]; rintro e w3 ⟨rfl, hs⟩; (try replace hs := sinUD hs); have y30 : w.heap.size < w3.heap.size := (by have hsz := hs.size; (try simp only [World.drew, World.drewN, Go.Deep.nblk_alloc, Go.Deep.nblk_setCell] at hsz); omega); have y31 : w.heap.size + 1 < w3.heap.size := (by have hsz := hs.size; (try simp only [World.drew, World.drewN, Go.Deep.nblk_alloc, Go.Deep.nblk_setCell] at hsz); omega); have y32 : w.heap.size + 1 + 1 < w3.heap.size := (by have hsz := hs.size; (try simp only [World.drew, World.drewN, Go.Deep.nblk_alloc, Go.Deep.nblk_setCell] at hsz); omega); obtain ⟨hc3, hf3⟩ := Fl.sinCell hs; have S3 := Lib.hid hs; clear hs)
    exact bodyPost_ret (v := .tuple #[.float .f32 y, .agg #[.float .f32 ra, .float .f32 rb, .float .f32 rc, .float .f32 rd], .bool true]) (by simp [results, Try.results10, go_sem, hc1, hf1, y10, y11, y12, hc2, hf2, y20, y21, y22, hc3, hf3, y30, y31, y32]) rfl ⟨y, ⟨ra, rb, rc, rd⟩, rfl, hy, HMV.out, by (repeat (first | (with_reducible refine Fl.sinDrew ?_) | (with_reducible refine World.Since.drew ?_) | (with_reducible refine Fl.sinSet ?_ ?_; rotate_left) | (with_reducible refine Fl.sinAlloc ?_ ?_; rotate_left) | with_reducible exact World.Since.refl _ _ | with_reducible assumption | (with_reducible refine Fl.sinStep (by with_reducible assumption) ?_))); all_goals (first | omega | (simp; done) | (simp; omega) | (simp [go_sem]; done) | (simp [go_sem]; omega))⟩

theorem implFS_Dir (f : FilN) (fu : Bool) (m : MemN) (x : Nat) (F : Fil) (M : Mem) (X : O) (w : World) (hF : FvF f F) (hM : FvM m M) (hx : Hid (Fv .f32 x X)) :
    Calls Try.prog 10 #[f.val, .int .i64 0, .bool fu, m.val, .float .f32 x] w (FSPost w true (stepY 0 fu F M X) (stepM 0 fu F M X)) := by
  rw [stepM_raw]
  exact implFS_gen _ _ f fu m x _ _ w stepOf_Dir fun W => nextDir_any fu f m x F M X W hF hM hx
theorem implFS_Tur (f : FilN) (fu : Bool) (m : MemN) (x : Nat) (F : Fil) (M : Mem) (X : O) (w : World) (hF : FvF f F) (hM : FvM m M) (hx : Hid (Fv .f32 x X)) :
    Calls Try.prog 10 #[f.val, .int .i64 1, .bool fu, m.val, .float .f32 x] w (FSPost w true (stepY 1 fu F M X) (stepM 1 fu F M X)) := by
  rw [stepM_raw]
  exact implFS_gen _ _ f fu m x _ _ w stepOf_Tur fun W => nextTur_any fu f m x F M X W hF hM hx
theorem implFS_Can (f : FilN) (fu : Bool) (m : MemN) (x : Nat) (F : Fil) (M : Mem) (X : O) (w : World) (hF : FvF f F) (hM : FvM m M) (hx : Hid (Fv .f32 x X)) :
    Calls Try.prog 10 #[f.val, .int .i64 2, .bool fu, m.val, .float .f32 x] w (FSPost w true (stepY 2 fu F M X) (stepM 2 fu F M X)) := by
  rw [stepM_raw]
  exact implFS_gen _ _ f fu m x _ _ w stepOf_Can fun W => nextCan_any fu f m x F M X W hF hM hx
end Go.Proofs.Ytipdgnhbmfmhnaa

/- Filters: a filter over samples, the model's. -/
set_option linter.unusedVariables false
set_option linter.unusedSimpArgs false
namespace Go.Proofs.Ytipdgnhbmfmhnaa
open Fl Go.RowKit
/-- the memory behind so many samples, and what is made of each -/
def filM (form : Nat) (fu : Bool) (F : Fil) (M : Mem) (X : Nat → O) : Nat → Mem
  | 0 => M
  | k + 1 => stepM form fu F (filM form fu F M X k) (X k)
def filY (form : Nat) (fu : Bool) (F : Fil) (M : Mem) (X : Nat → O) (k : Nat) : O := stepY form fu F (filM form fu F M X k) (X k)
theorem filM_like {form : Nat} {fu : Bool} {F : Fil} {M : Mem} {X Y : Nat → O} {n : Nat} (h : ∀ k, k < n → X k = Y k) : ∀ k, k ≤ n → filM form fu F M X k = filM form fu F M Y k
  | 0, _ => rfl
  | k + 1, hk => by
    unfold filM
    rw [filM_like h k (by omega), h k (by omega)]
theorem filY_like {form : Nat} {fu : Bool} {F : Fil} {M : Mem} {X Y : Nat → O} {n : Nat} (h : ∀ k, k < n → X k = Y k) (k : Nat) (hk : k < n) : filY form fu F M X k = filY form fu F M Y k := by
  unfold filY
  rw [filM_like h k (by omega), h k hk]
theorem filM_cut (form : Nat) (fu : Bool) (F : Fil) (M : Mem) (X : Nat → O) (a : Nat) : ∀ k, filM form fu F (filM form fu F M X a) (fun j => X (a + j)) k = filM form fu F M X (a + k)
  | 0 => rfl
  | k + 1 => by
    show stepM form fu F (filM form fu F (filM form fu F M X a) (fun j => X (a + j)) k) (X (a + k)) = stepM form fu F (filM form fu F M X (a + k)) (X (a + k))
    rw [filM_cut form fu F M X a k]
theorem filY_cut (form : Nat) (fu : Bool) (F : Fil) (M : Mem) (X : Nat → O) (a k : Nat) : filY form fu F (filM form fu F M X a) (fun j => X (a + j)) k = filY form fu F M X (a + k) := by
  unfold filY
  rw [filM_cut]
/-- a list and a memory -/
def PLM (n0 : Nat) (f0 : Nat → O) (M : Mem) (w : World) (e : Ending) (w' : World) : Prop :=
  ∃ (p : Ls) (c : Nat) (m : MemN), e = .returned (.tuple #[.slice p.A p.n c, m.val]) ∧ p.n = n0 ∧ Gs 24 w' w.heap.size p.A p.n p.xs ∧ Are p f0 ∧ FvM m M ∧ w.Since w.heap.size w'
theorem FilAt.since {w w' : World} {g : Nat} {f : FilN} (h : FilAt w g f) (s : w.Since (g + 1) w') : FilAt w' g f :=
  ⟨Nat.lt_of_lt_of_le h.lt s.size, (s.cell (a := ⟨g, 0, none⟩) (by show g < g + 1; omega)).trans h.b0, (s.cell (a := ⟨g, 1, none⟩) (by show g < g + 1; omega)).trans h.b1, (s.cell (a := ⟨g, 2, none⟩) (by show g < g + 1; omega)).trans h.b2, (s.cell (a := ⟨g, 3, none⟩) (by show g < g + 1; omega)).trans h.a1, (s.cell (a := ⟨g, 4, none⟩) (by show g < g + 1; omega)).trans h.a2⟩
theorem Rw.own_lt {lo : Nat} {w : World} {v : Value} {k : Nat} {F : Nat → O} (h : Rw lo w v k F) : ∀ b, v.ownBlock = some b → b < w.heap.size := by
  intro b hb
  obtain ⟨os, h1, _, _⟩ := h
  rcases h1.2 with ⟨rfl, _⟩ | ⟨g, cap, cur, rfl, hg, hb2, _⟩
  · simp [Value.ownBlock] at hb
  · simp [Value.ownBlock] at hb; subst hb; exact (Array.getElem?_eq_some_iff.1 hb2).1
theorem wpList_app1k {ops : Array Oper} {rest : List Oper} {o : Oper} {a : Act} {Q : Exit → Act → World → Prop} {w : World} (hgd : o.guard = none) (s x : Operand)
    (ho : o.op = .call { callee := .builtin .append, args := #[s, x], argTypes := #[26, 26] }) (lo : Nat) (v : Value) (k : Nat) (F : Nat → O) (hs : a.eval s = v) (b r : Nat)
    (hx : a.eval x = .slice (some ⟨b, 0, none⟩) 1 1) (hc : w.cell? ⟨b, 0, none⟩ = some (.float .f32 r)) (hk : k < 1048576) (hlo : lo ≤ w.heap.size) (hr : Hid (Fv .f32 r (F k))) (hR : Rw lo w v k F) (B : Nat) (hB : ∀ b, v.ownBlock = some b → b < B)
    (h : ∀ v' w', Hid (Rw lo w' v' (k + 1) F) → Hid (w.Since lo w') → Hid (∀ i, B ≤ i → i < w.heap.size → w'.heap[i]? = w.heap[i]?) → wpList Try.prog ops Q rest (a.put o.dst v') w') : wpList Try.prog ops Q (o :: rest) a w := by
  obtain ⟨os, h1, h2, h3⟩ := hR
  obtain ⟨i0, hi, hz0, hz1, hz2⟩ := info_parts Try.infoF
  refine wpList_append_own (P := Try.prog) w hgd s x 26 ho lo 24 i0 (.float .f32 0) 1 4 Try.underlying26 hi hz0 hz1 hz2 rfl (by omega) v k (fvl os) hs h1 ⟨b, 0, none⟩ 1 1 [.float .f32 r] hx rfl ?_ ?_ ?_ ?_ hlo ?_
  · intro j u hj
    rcases j with _ | j
    · simp at hj; subst hj; simpa [Addr.add] using hc
    · simp at hj
  · intro u hu; simp at hu; subst hu; rfl
  · unfold maxLen; omega
  · omega
  · intro v' w' hown hg _
    refine h v' w' (Lib.hid ⟨os ++ [r], ?_, h2.snoc hr.out.1, fun j hj => ?_⟩) (Lib.hid ⟨hg.os, hg.tape, hg.output, hg.size, fun i hi => ?_⟩) (Lib.hid fun i h5 h6 => hg.block i h6 fun e => by have := hB i e.symm; omega)
    · rw [← fvl_snoc]; exact hown
    · have hyl : os.length = k := by simpa [fvl] using h1.1
      rw [wd_snoc hyl]
      by_cases e : j < k
      · rw [if_pos e]; exact h3 j e
      · obtain rfl : j = k := by omega
        rw [if_neg e, if_pos rfl]; exact hr.out.2
    · refine hg.block i (by omega) fun e => ?_
      have := own_lo h1 i e.symm
      omega
/-- a memory's block -/
def MemB (T : TypeId) (w : World) (b : Nat) (m : MemN) : Prop := w.heap[b]? = some (.cells #[.float .f32 m.a, .float .f32 m.b, .float .f32 m.c, .float .f32 m.d] T (0, 0))
section
variable {T : TypeId} {w w' : World} {b : Nat} {m : MemN}
theorem MemB.lt (h : MemB T w b m) : b < w.heap.size := (Array.getElem?_eq_some_iff.1 h).1
theorem MemB.c0 (h : MemB T w b m) : w.cell? ⟨b, 0, none⟩ = some (.float .f32 m.a) := by unfold MemB at h; simp [World.cell?, h]
theorem MemB.c1 (h : MemB T w b m) : w.cell? ⟨b, 1, none⟩ = some (.float .f32 m.b) := by unfold MemB at h; simp [World.cell?, h]
theorem MemB.c2 (h : MemB T w b m) : w.cell? ⟨b, 2, none⟩ = some (.float .f32 m.c) := by unfold MemB at h; simp [World.cell?, h]
theorem MemB.c3 (h : MemB T w b m) : w.cell? ⟨b, 3, none⟩ = some (.float .f32 m.d) := by unfold MemB at h; simp [World.cell?, h]
theorem MemB.free (h : MemB T w b m) (q : Nat) : w.frozen? ⟨b, q, none⟩ = false := by unfold MemB at h; simp [World.frozen?, h]
theorem MemB.of (h : MemB T w b m) (e : w'.heap[b]? = w.heap[b]?) : MemB T w' b m := e.trans h
theorem MemB.since {B : Nat} (h : MemB T w b m) (s : w.Since B w') (hb : b < B) : MemB T w' b m := h.of (s.block b hb)
theorem MemB.set (h : MemB T w b m) (x y z u : Nat) : MemB T ((((w.setCell ⟨b, 0, none⟩ (.float .f32 x)).setCell ⟨b, 1, none⟩ (.float .f32 y)).setCell ⟨b, 2, none⟩ (.float .f32 z)).setCell ⟨b, 3, none⟩ (.float .f32 u)) b ⟨x, y, z, u⟩ := by
  unfold MemB at h ⊢
  simp [World.setCell, Array.getElem?_modify, h]
theorem MemB.new (T : TypeId) (w : World) (x y z u : Nat) : MemB T (w.alloc (.cells #[.float .f32 x, .float .f32 y, .float .f32 z, .float .f32 u] T)) w.heap.size ⟨x, y, z, u⟩ := Go.Deep.blk_alloc_new _ _
end
theorem gs_low {T : TypeId} {w w' : World} {lo n g : Nat} {A : Option Addr} {xs : List Nat} (h : Gs T w lo A n xs) (o : On g w w') (hd : g < lo) : Gs T w' lo A n xs :=
  ⟨h.1, h.2.1, fun hn => by
    obtain ⟨b, cs, e, hb, hh, hc⟩ := h.2.2 hn
    exact ⟨b, cs, e, hb, (o.2 b (Array.getElem?_eq_some_iff.1 hh).1 (by omega)).trans hh, hc⟩⟩
end Go.Proofs.Ytipdgnhbmfmhnaa

/- Filters: a filter over samples in their places, the program's. -/
set_option linter.unusedVariables false
set_option linter.unusedSimpArgs false
namespace Go.Proofs.Ytipdgnhbmfmhnaa
open Fl Go.RowKit
/-- a block of so many numbers, the first k of which are the new ones -/
def Pr (w : World) (g n k : Nat) (Y X : Nat → O) : Prop := ∃ xs : List Nat, xs.length = n ∧ Small xs ∧ GCells w g n (fv xs) ∧ ∀ j, j < n → ab .f32 (wd xs j) = if j < k then Y j else X j
section
variable {w w' : World} {g n k : Nat} {Y X : Nat → O}
theorem Pr.put (h : Pr w g n k Y X) (hk : k < n) {r : Nat} (hr : Hid (Fv .f32 r (Y k))) : Pr (w.setCell ⟨g, k, none⟩ (.float .f32 r)) g n (k + 1) Y X := by
  obtain ⟨xs, h1, h2, h3, h4⟩ := h
  refine ⟨xs.set k r, by rw [List.length_set, h1], fun x hx => ?_, (h3.set k _).congr (fun j hj => ?_), fun j hj => ?_⟩
  · rcases List.mem_or_eq_of_mem_set hx with h | rfl
    · exact h2 x h
    · exact hr.out.1
  · unfold fv wd
    by_cases e : j = k
    · subst e; rw [if_pos rfl]; simp [List.getD_eq_getElem?_getD, List.getElem?_set, h1, hj]
    · rw [if_neg e]; simp [List.getD_eq_getElem?_getD, List.getElem?_set, show ¬ (k = j) from fun h => e h.symm]
  · unfold wd
    by_cases e : j = k
    · subst e
      rw [if_pos (by omega)]
      simp [List.getD_eq_getElem?_getD, List.getElem?_set, h1, hk]
      exact hr.out.2
    · have := h4 j hj
      unfold wd at this
      rw [show (if j < k + 1 then Y j else X j) = if j < k then Y j else X j by by_cases e2 : j < k; rw [if_pos e2, if_pos (by omega)]; rw [if_neg e2, if_neg (by omega)]]
      simpa [List.getD_eq_getElem?_getD, List.getElem?_set, show ¬ (k = j) from fun h => e h.symm] using this
theorem Pr.keep (h : Pr w g n k Y X) (e : w'.heap[g]? = w.heap[g]?) : Pr w' g n k Y X := by
  obtain ⟨xs, h1, h2, ⟨cs, hb, hc⟩, h4⟩ := h
  exact ⟨xs, h1, h2, ⟨cs, e.trans hb, hc⟩, h4⟩
theorem Pr.lt (h : Pr w g n k Y X) : g < w.heap.size := by
  obtain ⟨xs, h1, h2, h3, h4⟩ := h
  exact h3.lt
theorem Pr.cell (h : Pr w g n k Y X) {j : Nat} (hj : j < n) (hk : k ≤ j) : ∃ x, w.cell? ⟨g, j, none⟩ = some (.float .f32 x) ∧ Hid (Fv .f32 x (X j)) := by
  obtain ⟨xs, h1, h2, h3, h4⟩ := h
  exact ⟨wd xs j, h3.cell hj, Lib.hid ⟨h2.at_ j, by rw [h4 j hj, if_neg (by omega)]⟩⟩
theorem Pr.free (h : Pr w g n k Y X) (j : Nat) : w.frozen? ⟨g, j, none⟩ = false := by
  obtain ⟨xs, h1, h2, h3, h4⟩ := h
  exact h3.free j
theorem Pr.done {lo : Nat} (h : Pr w g n n Y X) (hl : lo ≤ g) : ∃ xs, Gs 24 w lo (some ⟨g, 0, none⟩) n xs ∧ Are ⟨some ⟨g, 0, none⟩, n, xs⟩ Y := by
  obtain ⟨xs, h1, h2, ⟨cs, hb, hc⟩, h4⟩ := h
  exact ⟨xs, ⟨h1, h2, fun _ => ⟨g, cs, rfl, hl, hb, hc⟩⟩, fun j hj => by rw [h4 j hj, if_pos hj]⟩
theorem Pr.of {lo : Nat} {xs : List Nat} (h : Gs 24 w lo (some ⟨g, 0, none⟩) n xs) (h0 : 0 < n) (hx : ∀ j, j < n → ab .f32 (wd xs j) = X j) : lo ≤ g ∧ Pr w g n 0 Y X := by
  obtain ⟨h1, h2, h3⟩ := h
  obtain ⟨g', cs, e, hl, hb, hc⟩ := h3 h0
  injection e with e
  injection e with e1 _ _
  subst e1
  exact ⟨hl, xs, h1, h2, ⟨cs, hb, hc⟩, fun j hj => by rw [if_neg (by omega)]; exact hx j hj⟩
end
def isNext (form : Nat) (k : FuncId) : Prop := (form = 0 ∧ k = 20) ∨ (form = 1 ∧ k = 21) ∨ (form = 2 ∧ k = 22)
theorem next_step {form : Nat} {k : FuncId} (h : isNext form k) (fu : Bool) (f : FilN) (m : MemN) (x : Nat) (F : Fil) (M : Mem) (X : O) (w : World) (hF : FvF f F) (hM : FvM m M) (hx : Hid (Fv .f32 x X)) :
    Calls Try.prog 15 #[setV f fu, .func (.func k) #[] #[], m.val, .float .f32 x] w (StepPost w (stepY form fu F M X) (stepM form fu F M X)) := by
  rw [stepM_raw]
  rcases h with ⟨rfl, rfl⟩ | ⟨rfl, rfl⟩ | ⟨rfl, rfl⟩
  · exact nextDir_any fu f m x F M X w hF hM hx
  · exact nextTur_any fu f m x F M X w hF hM hx
  · exact nextCan_any fu f m x F M X w hF hM hx
end Go.Proofs.Ytipdgnhbmfmhnaa

/- Filters: impulses, both sides. -/
set_option linter.unusedVariables false
set_option linter.unusedSimpArgs false
namespace Go.Proofs.Ytipdgnhbmfmhnaa
open Fl Go.RowKit
def impX (k : Nat) : O := if k = 0 then some 1065353216 else some 0
def impL (n : Nat) : List Nat := (List.range n).map fun j => if j = 0 then 1065353216 else 0
theorem impL_wd {n j : Nat} (h : j < n) : wd (impL n) j = if j = 0 then 1065353216 else 0 := by unfold impL wd; simp [h]
theorem imp_are (n : Nat) (A : Option Addr) : Are ⟨A, n, impL n⟩ impX := fun j (hj : j < n) => by
  show ab .f32 (wd (impL n) j) = impX j
  rw [impL_wd hj]
  unfold impX
  by_cases e : j = 0
  · rw [if_pos e, if_pos e, ab32, if_neg (by decide)]
  · rw [if_neg e, if_neg e, ab32, if_neg (by decide)]
theorem imp_gs {w : World} {g n lo : Nat} (hl : lo ≤ g) (h : GCells w g n (fun j => .float .f32 (if j = 0 then 1065353216 else 0))) : Gs 24 w lo (some ⟨g, 0, none⟩) n (impL n) := by
  obtain ⟨cs, hb, hc⟩ := h
  refine ⟨by simp [impL], fun x hx => ?_, fun _ => ⟨g, cs, rfl, hl, hb, fun k hk => ?_⟩⟩
  · unfold impL at hx
    obtain ⟨j, _, rfl⟩ := List.mem_map.1 hx
    split <;> decide
  · rw [hc k hk]; unfold fv; rw [impL_wd hk]
theorem made_cells (w : World) (n : Nat) : GCells (w.alloc (.cells (madeCells #[.float .f32 0] n) 24)) w.heap.size n (fun _ => .float .f32 0) := by
  obtain ⟨cs, hb, _, hc⟩ := World.rowIs_made w (.float .f32 0) n 24
  exact ⟨cs, hb, fun j hj => hc j hj⟩
theorem noM_fv : FvM ⟨0, 0, 0, 0⟩ noM := fvNo
theorem stepOf_any (form : Nat) (hform : form ≤ 2) : ∃ kk, isNext form kk ∧ ∀ w, Calls Try.prog 13 #[.int .i64 (form : Int)] w fun e w' => e = .returned (.tuple #[.func (.func kk) #[] #[], .bool true]) ∧ w = w' := by
  match form, hform with
  | 0, _ => exact ⟨_, .inl ⟨rfl, rfl⟩, stepOf_Dir⟩
  | 1, _ => exact ⟨_, .inr (.inl ⟨rfl, rfl⟩), stepOf_Tur⟩
  | 2, _ => exact ⟨_, .inr (.inr ⟨rfl, rfl⟩), stepOf_Can⟩
end Go.Proofs.Ytipdgnhbmfmhnaa

/- Filters: one filter over samples, the model's function, and what fails. -/
set_option linter.unusedVariables false
set_option linter.unusedSimpArgs false
namespace Go.Proofs.Ytipdgnhbmfmhnaa
open Fl Go.RowKit
def PLMB (n0 : Nat) (f0 : Nat → O) (M : Mem) (b : Bool) (w : World) (e : Ending) (w' : World) : Prop :=
  ∃ (p : Ls) (c : Nat) (m : MemN), e = .returned (.tuple #[.slice p.A p.n c, m.val, .bool b]) ∧ p.n = n0 ∧ Gs 24 w' w.heap.size p.A p.n p.xs ∧ Are p f0 ∧ FvM m M ∧ w.Since w.heap.size w'
theorem PLMB.none_ {w w' : World} (s : w.Since w.heap.size w') (f0 : Nat → O) : PLMB 0 f0 noM false w (.returned (.tuple #[.slice none 0 0, .agg #[.float .f32 0, .float .f32 0, .float .f32 0, .float .f32 0], .bool false])) w' :=
  ⟨⟨none, 0, []⟩, 0, ⟨0, 0, 0, 0⟩, rfl, rfl, Gs.nil_, (fun k hk => by simp at hk), noM_fv, s⟩
end Go.Proofs.Ytipdgnhbmfmhnaa

/- Lists of any kind that a law holds: compared and held; structs in boxes of a law. -/
set_option linter.unusedVariables false
set_option linter.unusedSimpArgs false
namespace Go.Proofs.Ytipdgnhbmfmhnaa
open Fl Go.RowKit
theorem Fl.Gx.readF {w : World} {lo n : Nat} {A : Option Addr} {xs : List Nat} (h : Gx w lo (fx A n xs)) : Fs w w.heap.size A n xs := h.toF.read
/-- a struct of floats in a box of its own -/
def bx (T : TypeId) (g : Nat) (xs : List Nat) : Lx := ⟨T, some ⟨g, 0, none⟩, xs.length, fv xs, True⟩
theorem Fl.Gx.box {w : World} {T : TypeId} {lo g : Nat} {xs : List Nat} (h : Gx w lo (bx T g xs)) (i : Nat) (hi : i < xs.length) : w.cell? ⟨g, i, none⟩ = some (.float .f32 (wd xs i)) := by
  obtain ⟨g', cs, e, hg, hb, hc⟩ := h.2 (by show 0 < xs.length; omega)
  injection e with e; injection e with e _ _; subst e
  have h1 := hc i hi
  simp only [World.cell?, hb]
  simpa [bx, fv] using h1
theorem cells3 {w : World} {T : TypeId} {g : Nat} {x y z a r l : Value} (h : w.heap[g]? = some (.cells #[x, y, z] T (0, 0))) : (((w.setCell ⟨g, 0, none⟩ a).setCell ⟨g, 1, none⟩ r).setCell ⟨g, 2, none⟩ l).heap[g]? = some (.cells #[a, r, l] T (0, 0)) := by
  simp [World.setCell, Array.getElem?_modify, h]
theorem cells5 {w : World} {T : TypeId} {g : Nat} {x0 x1 x2 x3 x4 a b c d e : Value} (h : w.heap[g]? = some (.cells #[x0, x1, x2, x3, x4] T (0, 0))) : (((((w.setCell ⟨g, 0, none⟩ a).setCell ⟨g, 1, none⟩ b).setCell ⟨g, 2, none⟩ c).setCell ⟨g, 3, none⟩ d).setCell ⟨g, 4, none⟩ e).heap[g]? = some (.cells #[a, b, c, d, e] T (0, 0)) := by
  simp [World.setCell, Array.getElem?_modify, h]
/-- a box made and filled with three floats -/
theorem box3 (v : World) (T : TypeId) (a b c : Nat) (z : Value) : ∃ V, V = (((v.alloc (.cells #[z, z, z] T)).setCell ⟨v.heap.size, 0, none⟩ (.float .f32 a)).setCell ⟨v.heap.size, 1, none⟩ (.float .f32 b)).setCell ⟨v.heap.size, 2, none⟩ (.float .f32 c) ∧ v.Since v.heap.size V ∧ Gx V v.heap.size (bx T v.heap.size [a, b, c]) := by
  refine ⟨_, rfl, ((((World.Since.refl _ _).alloc (Nat.le_refl _) _).setCell (Nat.le_refl _) _).setCell (Nat.le_refl _) _).setCell (Nat.le_refl _) _, trivial, fun _ => ⟨v.heap.size, #[.float .f32 a, .float .f32 b, .float .f32 c], rfl, Nat.le_refl _, ?_, fun k hk => ?_⟩⟩
  · exact cells3 (Go.Deep.blk_alloc_new v (.cells #[z, z, z] T))
  · simp only [bx, List.length_cons, List.length_nil] at hk
    match k, hk with
    | 0, _ => rfl
    | 1, _ => rfl
    | 2, _ => rfl
theorem box5 (v : World) (T : TypeId) (a b c d e : Nat) (z : Value) : ∃ V, V = (((((v.alloc (.cells #[z, z, z, z, z] T)).setCell ⟨v.heap.size, 0, none⟩ (.float .f32 a)).setCell ⟨v.heap.size, 1, none⟩ (.float .f32 b)).setCell ⟨v.heap.size, 2, none⟩ (.float .f32 c)).setCell ⟨v.heap.size, 3, none⟩ (.float .f32 d)).setCell ⟨v.heap.size, 4, none⟩ (.float .f32 e) ∧ v.Since v.heap.size V ∧ Gx V v.heap.size (bx T v.heap.size [a, b, c, d, e]) := by
  refine ⟨_, rfl, ((((((World.Since.refl _ _).alloc (Nat.le_refl _) _).setCell (Nat.le_refl _) _).setCell (Nat.le_refl _) _).setCell (Nat.le_refl _) _).setCell (Nat.le_refl _) _).setCell (Nat.le_refl _) _, trivial, fun _ => ⟨v.heap.size, #[.float .f32 a, .float .f32 b, .float .f32 c, .float .f32 d, .float .f32 e], rfl, Nat.le_refl _, ?_, fun k hk => ?_⟩⟩
  · exact cells5 (Go.Deep.blk_alloc_new v (.cells #[z, z, z, z, z] T))
  · simp only [bx, List.length_cons, List.length_nil] at hk
    match k, hk with
    | 0, _ => rfl
    | 1, _ => rfl
    | 2, _ => rfl
    | 3, _ => rfl
    | 4, _ => rfl
/-- a box made with its floats in it -/
theorem boxa (v : World) (T : TypeId) (xs : List Nat) : ∃ V, V = v.alloc (.cells (xs.map fun x => Value.float .f32 x).toArray T) ∧ v.Since v.heap.size V ∧ Gx V v.heap.size (bx T v.heap.size xs) :=
  ⟨_, rfl, (World.Since.refl _ _).alloc (Nat.le_refl _) _, trivial, fun _ => ⟨v.heap.size, _, rfl, Nat.le_refl _, Go.Deep.blk_alloc_new _ _, fun k hk => by
    simp only [bx] at hk ⊢
    unfold fv wd
    simp [hk]⟩⟩
/-! followers as a law holds them -/
def zFol : Fol := ⟨some 0, some 0, some 0⟩
theorem PLFB.none_ {w w' : World} (s : w.Since w.heap.size w') (f0 : Nat → Option Nat) : PLFB 0 f0 zFol false w (.returned (.tuple #[.slice none 0 0, .agg #[.float .f32 0, .float .f32 0, .float .f32 0], .bool false])) w' :=
  ⟨⟨none, 0, []⟩, 0, ⟨0, 0, 0⟩, rfl, rfl, Gs.nil_, (fun k hk => by simp at hk), ⟨fv0, fv0, fv0⟩, s⟩
end Go.Proofs.Ytipdgnhbmfmhnaa

/- Lists of int64 that functions give: contracts, looked at, held; rows of integers that a loop appends to. -/
set_option linter.unusedVariables false
set_option linter.unusedSimpArgs false
namespace Go.Proofs.Ytipdgnhbmfmhnaa
open Fl Go.RowKit
namespace Fl
/-- a list of integers: where it lies, how long, its numbers -/
structure Li where
  A : Option Addr
  n : Nat
  xs : List Int
end Fl
theorem Fl.Gx.readI {w : World} {lo n : Nat} {A : Option Addr} {xs : List Int} (h : Gx w lo (ix64 A n xs)) : Is w w.heap.size A n xs := h.toI.read
def PJB (n0 : Nat) (f0 : List Int) (b : Bool) (w : World) (e : Ending) (w' : World) : Prop :=
  ∃ (p : Li) (c : Nat), e = .returned (.tuple #[.slice p.A p.n c, .bool b]) ∧ p.n = n0 ∧ IGs 2 w' w.heap.size p.A p.n p.xs ∧ p.xs = f0 ∧ w.Since w.heap.size w'
theorem PJB.none_ {w w' : World} (s : w.Since w.heap.size w') : PJB 0 [] false w (.returned (.tuple #[.slice none 0 0, .bool false])) w' :=
  ⟨⟨none, 0, []⟩, 0, rfl, rfl, IGs.nil_, rfl, s⟩
def PJVB (n0 : Nat) (f0 : List Int) (o : O) (b : Bool) (w : World) (e : Ending) (w' : World) : Prop :=
  ∃ (p : Li) (c r : Nat), e = .returned (.tuple #[.slice p.A p.n c, .float .f32 r, .bool b]) ∧ p.n = n0 ∧ IGs 2 w' w.heap.size p.A p.n p.xs ∧ p.xs = f0 ∧ Hid (Fv .f32 r o) ∧ w.Since w.heap.size w'
/-! rows of integers that a loop appends to -/
namespace Fl
def ivl (os : List Int) : List Value := os.map fun x => Value.int .i64 x
theorem ivl_snoc (xs : List Int) (x : Int) : ivl xs ++ [Value.int .i64 x] = ivl (xs ++ [x]) := by unfold ivl; simp
theorem IGs.of_own {w : World} {lo n c : Nat} {A : Option Addr} {xs : List Int} (h : w.ownsRow lo 2 1 (.slice A n c) n (ivl xs)) : IGs 2 w lo A n xs := by
  have hl : xs.length = n := by simpa [ivl] using h.1
  refine ⟨hl, fun hn => ?_⟩
  rcases h.2 with ⟨hv, h0⟩ | ⟨g, cap, cur, hv, hg, hb, hnc, _, hsz, htk⟩
  · omega
  · injection hv with h1 _ _
    subst h1
    refine ⟨g, cur, rfl, hg, hb, fun k hk => ?_⟩
    have e1 : (cur.toList.take (n * 1))[k]? = (ivl xs)[k]? := by rw [htk]
    rw [List.getElem?_take_of_lt (by omega)] at e1
    rw [Array.getElem?_toList] at e1
    rw [e1]
    unfold ivl iv wi
    simp [List.getD_eq_getElem?_getD, List.getElem?_eq_getElem (show k < xs.length by omega)]
end Fl
/-- v is a row of the loop's own, from block lo on, whose numbers are these -/
def RwI (lo : Nat) (w : World) (v : Value) (os : List Int) : Prop := w.ownsRow lo 2 1 v os.length (ivl os)
theorem RwI.start (w : World) (lo : Nat) (h : lo ≤ w.heap.size) : RwI lo (w.alloc (.cells #[] 2)) (.slice (some ⟨w.heap.size, 0, none⟩) 0 0) [] :=
  ⟨rfl, .inr ⟨w.heap.size, 0, #[], rfl, h, Go.Deep.blk_alloc_new _ _, Nat.le_refl _, Nat.zero_le _, rfl, rfl⟩⟩
theorem RwI.keep {lo : Nat} {w w' : World} {v : Value} {os : List Int} (h : RwI lo w v os) (e : ∀ b, lo ≤ b → b < w.heap.size → w'.heap[b]? = w.heap[b]?) : RwI lo w' v os := by
  obtain ⟨h1, h2⟩ := h
  refine ⟨h1, ?_⟩
  rcases h2 with h2 | ⟨g, cap, cur, e1, h3, h4, r⟩
  · exact .inl h2
  · exact .inr ⟨g, cap, cur, e1, h3, (e g h3 (Array.getElem?_eq_some_iff.1 h4).1).trans h4, r⟩
theorem RwI.since {lo : Nat} {w w' : World} {v : Value} {os : List Int} (h : RwI lo w v os) (s : w.Since w.heap.size w') : RwI lo w' v os := h.keep fun b _ hb => s.block b hb
theorem RwI.drewN {lo : Nat} {w : World} {v : Value} {os : List Int} (h : RwI lo w v os) (n : Nat) : RwI lo (w.drewN n) v os := h
theorem RwI.alloc {lo : Nat} {w : World} {v : Value} {os : List Int} (h : RwI lo w v os) (o : Obj) : RwI lo (w.alloc o) v os := h.since ((World.Since.refl _ _).alloc (Nat.le_refl _) _)
theorem RwI.done {lo : Nat} {w : World} {v : Value} {os : List Int} (h : RwI lo w v os) : ∃ (p : Li) (c : Nat), v = .slice p.A p.n c ∧ p.n = os.length ∧ IGs 2 w lo p.A p.n p.xs ∧ p.xs = os := by
  have hf' : v = .slice none 0 0 ∧ os.length = 0 ∨ ∃ g cap, v = .slice (some ⟨g, 0, none⟩) os.length cap := by
    rcases h.2 with h2 | ⟨g, cap, cur, e, _⟩
    · exact .inl h2
    · exact .inr ⟨g, cap, e⟩
  rcases hf' with ⟨rfl, h0⟩ | ⟨g, cap, rfl⟩
  · obtain rfl : os = [] := List.eq_nil_of_length_eq_zero h0
    exact ⟨⟨none, 0, []⟩, 0, rfl, rfl, IGs.nil_, rfl⟩
  · exact ⟨⟨some ⟨g, 0, none⟩, os.length, os⟩, cap, rfl, rfl, IGs.of_own h, rfl⟩
end Go.Proofs.Ytipdgnhbmfmhnaa

/- What a law holds: entries, each with the blocks it lies in, apart from one another. Lists of floats and of integers anywhere in a block. -/
set_option linter.unusedVariables false
set_option linter.unusedSimpArgs false
namespace Go.Proofs.Ytipdgnhbmfmhnaa
namespace Fl
/-- an entry: what it says of a world, and the blocks that it speaks of -/
structure En where
  P : World → Prop
  S : Nat → Prop
/-- it lies in blocks of the law's own, from B on, and speaks of these alone -/
def Ge (B : Nat) (w : World) (e : En) : Prop := e.P w ∧ (∀ w w' : World, (∀ g, e.S g → w'.heap[g]? = w.heap[g]?) → e.P w → e.P w') ∧ ∀ g, e.S g → B ≤ g ∧ g < w.heap.size
section
variable {B : Nat} {v v' : World} {p q : En} {r : List En}
theorem Ge.keep (h : Ge B v p) (hs : ∀ g, p.S g → v'.heap[g]? = v.heap[g]?) (hz : v.heap.size ≤ v'.heap.size) : Ge B v' p :=
  ⟨h.2.1 v v' hs h.1, h.2.1, fun g hg => ⟨(h.2.2 g hg).1, Nat.lt_of_lt_of_le (h.2.2 g hg).2 hz⟩⟩
theorem Ge.since (h : Ge B v p) (hs : v.Since v.heap.size v') : Ge B v' p := h.keep (fun g hg => hs.block g (h.2.2 g hg).2) hs.size
theorem Ge.less {b : Nat} (h : Ge B v p) (hb : b ≤ B) : Ge b v p := ⟨h.1, h.2.1, fun g hg => ⟨Nat.le_trans hb (h.2.2 g hg).1, (h.2.2 g hg).2⟩⟩
/-- two entries lie in different blocks -/
def De (p q : En) : Prop := ∀ g, p.S g → q.S g → False
theorem De.symm (h : De p q) : De q p := fun g a b => h g b a
def He (B : Nat) (v : World) : List En → Prop
  | [] => True
  | p :: r => (Ge B v p ∧ ∀ q ∈ r, De p q) ∧ He B v r
theorem He.at_ : ∀ {r : List En} (h : He B v r) {p : En}, p ∈ r → Ge B v p
  | _ :: _, h, _, .head _ => h.1.1
  | _ :: _, h, _, .tail _ hp => He.at_ h.2 hp
theorem He.since : ∀ {r : List En} (h : He B v r) (hs : v.Since v.heap.size v'), He B v' r
  | [], _, _ => trivial
  | _ :: _, h, hs => ⟨⟨h.1.1.since hs, h.1.2⟩, He.since h.2 hs⟩
theorem He.less {b : Nat} : ∀ {r : List En} (h : He B v r) (hb : b ≤ B), He b v r
  | [], _, _ => trivial
  | _ :: _, h, hb => ⟨⟨h.1.1.less hb, h.1.2⟩, He.less h.2 hb⟩
theorem He.new (h : He B v r) (hs : v.Since v.heap.size v') (g : Ge v.heap.size v' p) (hB : B ≤ v.heap.size) : He B v' (p :: r) :=
  ⟨⟨g.less hB, fun q hq b h1 h2 => by
    have h3 := (g.2.2 b h1).1
    have h4 := ((h.at_ hq).2.2 b h2).2
    omega⟩, h.since hs⟩
theorem He.new2 (h : He B v r) (hs : v.Since v.heap.size v') (g : Ge v.heap.size v' p) (k : Ge v.heap.size v' q) (hd : De p q) (hB : B ≤ v.heap.size) : He B v' (p :: q :: r) := by
  have h1 := h.new hs g hB
  have h2 := h.new hs k hB
  refine ⟨⟨h1.1.1, fun s hs => ?_⟩, h2⟩
  rcases List.mem_cons.1 hs with rfl | hs
  · exact hd
  · exact h1.1.2 s hs
theorem He.mark_hd {p' : En} (h : He B v (p :: r)) (g : Ge B v' p') (hS : p'.S = p.S) (ho : ∀ g, ¬ p.S g → v'.heap[g]? = v.heap[g]?) (hz : v.heap.size ≤ v'.heap.size) : He B v' (p' :: r) := by
  refine ⟨⟨g, fun q hq b h1 h2 => h.1.2 q hq b (hS ▸ h1) h2⟩, ?_⟩
  have hd := h.1.2
  have ht := h.2
  clear h
  induction r with
  | nil => trivial
  | cons q r ih =>
    refine ⟨⟨?_, ht.1.2⟩, ih (fun q' hq' => hd q' (.tail _ hq')) ht.2⟩
    exact ht.1.1.keep (fun b hb => ho b fun hp => hd q (.head _) b hp hb) hz
theorem He.swap (h : He B v (p :: q :: r)) : He B v (q :: p :: r) := by
  obtain ⟨⟨h1, h2⟩, ⟨h3, h4⟩, h5⟩ := h
  refine ⟨⟨h3, fun s hs => ?_⟩, ⟨h1, fun s hs => h2 s (.tail _ hs)⟩, h5⟩
  rcases List.mem_cons.1 hs with rfl | hs
  · exact (h2 q (.head _)).symm
  · exact h4 s hs
theorem He.front {l : List En} : ∀ (k : List En), He B v (k ++ p :: l) → He B v (p :: (k ++ l))
  | [], h => h
  | q :: k, h => by
    have h2 : He B v (p :: (k ++ l)) := He.front k h.2
    have h3 : He B v (q :: p :: (k ++ l)) := ⟨⟨h.1.1, fun s hs => h.1.2 s (by
      rcases List.mem_cons.1 hs with rfl | hs
      · simp
      · rcases List.mem_append.1 hs with h4 | h4
        · simp [h4]
        · simp [h4])⟩, h2⟩
    exact h3.swap
end
/-- cells of one block: their type, where they begin, how many, what they are -/
def ce (T : TypeId) (A : Option Addr) (n : Nat) (f : Nat → Value) (ok : Prop) : En :=
  ⟨fun w => ok ∧ (0 < n → ∃ g off cs, A = some ⟨g, off, none⟩ ∧ w.heap[g]? = some (.cells cs T (0, 0)) ∧ ∀ k, k < n → cs[off + k]? = some (f k)), fun g => 0 < n ∧ ∃ off, A = some ⟨g, off, none⟩⟩
theorem ce_frame {T : TypeId} {A : Option Addr} {n : Nat} {f : Nat → Value} {ok : Prop} (w w' : World) (h : ∀ g, (ce T A n f ok).S g → w'.heap[g]? = w.heap[g]?) (hp : (ce T A n f ok).P w) : (ce T A n f ok).P w' :=
  ⟨hp.1, fun hn => by
    obtain ⟨g, off, cs, e, hb, hc⟩ := hp.2 hn
    exact ⟨g, off, cs, e, (h g ⟨hn, off, e⟩).trans hb, hc⟩⟩
theorem ce_ge {T : TypeId} {A : Option Addr} {n B : Nat} {f : Nat → Value} {ok : Prop} {w : World} (ho : ok) (h : 0 < n → ∃ g off cs, A = some ⟨g, off, none⟩ ∧ B ≤ g ∧ w.heap[g]? = some (.cells cs T (0, 0)) ∧ ∀ k, k < n → cs[off + k]? = some (f k)) : Ge B w (ce T A n f ok) :=
  ⟨⟨ho, fun hn => by obtain ⟨g, off, cs, e, _, hb, hc⟩ := h hn; exact ⟨g, off, cs, e, hb, hc⟩⟩, ce_frame, fun g ⟨hn, off, e⟩ => by
    obtain ⟨g', off', cs, e', hB, hb, hc⟩ := h hn
    rw [e] at e'
    injection e' with e'
    injection e' with e' _ _
    subst e'
    exact ⟨hB, (Array.getElem?_eq_some_iff.1 hb).1⟩⟩
theorem Ge.ce {T : TypeId} {A : Option Addr} {n B : Nat} {f : Nat → Value} {ok : Prop} {w : World} (h : Ge B w (ce T A n f ok)) (hn : 0 < n) : ∃ g off cs, A = some ⟨g, off, none⟩ ∧ B ≤ g ∧ g < w.heap.size ∧ w.heap[g]? = some (.cells cs T (0, 0)) ∧ ∀ k, k < n → cs[off + k]? = some (f k) := by
  obtain ⟨g, off, cs, e, hb, hc⟩ := h.1.2 hn
  have := h.2.2 g ⟨hn, off, e⟩
  exact ⟨g, off, cs, e, this.1, this.2, hb, hc⟩
def fe (A : Option Addr) (n : Nat) (xs : List Nat) : En := ce 24 A n (fv xs) (xs.length = n ∧ Small xs)
def ie (A : Option Addr) (n : Nat) (xs : List Int) : En := ce 2 A n (iv xs) (xs.length = n)
theorem Gs.toE {w : World} {lo n : Nat} {A : Option Addr} {xs : List Nat} (h : Gs 24 w lo A n xs) : Ge lo w (fe A n xs) :=
  ce_ge ⟨h.1, h.2.1⟩ fun hn => by
    obtain ⟨g, cs, e, hg, hb, hc⟩ := h.2.2 hn
    exact ⟨g, 0, cs, e, hg, hb, fun k hk => by rw [Nat.zero_add]; exact hc k hk⟩
theorem IGs.toE {w : World} {lo n : Nat} {A : Option Addr} {xs : List Int} (h : IGs 2 w lo A n xs) : Ge lo w (ie A n xs) :=
  ce_ge h.1 fun hn => by
    obtain ⟨g, cs, e, hg, hb, hc⟩ := h.2 hn
    exact ⟨g, 0, cs, e, hg, hb, fun k hk => by rw [Nat.zero_add]; exact hc k hk⟩
theorem Ge.readF {w : World} {lo n : Nat} {A : Option Addr} {xs : List Nat} (h : Ge lo w (fe A n xs)) : Fs w w.heap.size A n xs :=
  ⟨h.1.1.1, h.1.1.2, fun hn => by
    obtain ⟨g, off, cs, e, hg, hl, hb, hc⟩ := h.ce hn
    refine ⟨g, off, e, hl, fun k hk => ?_⟩
    simp only [World.cell?, hb]
    simpa using hc k hk⟩
theorem Ge.readI {w : World} {lo n : Nat} {A : Option Addr} {xs : List Int} (h : Ge lo w (ie A n xs)) : Is w w.heap.size A n xs :=
  ⟨h.1.1, fun hn => by
    obtain ⟨g, off, cs, e, hg, hl, hb, hc⟩ := h.ce hn
    refine ⟨g, off, e, hl, fun k hk => ?_⟩
    simp only [World.cell?, hb]
    simpa using hc k hk⟩
end Fl
open Fl Go.RowKit
end Go.Proofs.Ytipdgnhbmfmhnaa

/- Boxes of a law; two lists given back. -/
set_option linter.unusedVariables false
set_option linter.unusedSimpArgs false
namespace Go.Proofs.Ytipdgnhbmfmhnaa
open Fl Go.RowKit
/-- a struct in a box of its own -/
def bxv (T : TypeId) (g : Nat) (vs : List Value) : En := ⟨fun w => w.heap[g]? = some (.cells vs.toArray T (0, 0)), fun b => b = g⟩
def bxf (T : TypeId) (g : Nat) (xs : List Nat) : En := bxv T g (xs.map fun x => Value.float .f32 x)
theorem Fl.Ge.boxv {w : World} {T : TypeId} {lo g : Nat} {vs : List Value} (h : Ge lo w (bxv T g vs)) (i : Nat) (v : Value) (hi : vs[i]? = some v) : w.cell? ⟨g, i, none⟩ = some v := by
  have h1 : w.heap[g]? = some (.cells vs.toArray T (0, 0)) := h.1
  simp only [World.cell?, h1]
  simpa using hi
theorem Fl.Ge.box {w : World} {T : TypeId} {lo g : Nat} {xs : List Nat} (h : Ge lo w (bxf T g xs)) (i : Nat) (hi : i < xs.length) : w.cell? ⟨g, i, none⟩ = some (.float .f32 (wd xs i)) :=
  Ge.boxv h i _ (by rw [List.getElem?_map, List.getElem?_eq_getElem hi]; simp [wd, List.getD_eq_getElem?_getD, List.getElem?_eq_getElem hi])
theorem boxv_ge (v : World) (T : TypeId) (vs : List Value) : Ge v.heap.size (v.alloc (.cells vs.toArray T)) (bxv T v.heap.size vs) :=
  ⟨Go.Deep.blk_alloc_new _ _, fun w w' h hp => (h _ rfl).trans hp, fun g hg => by
    have hg' : g = v.heap.size := hg
    subst hg'
    exact ⟨Nat.le_refl _, by simp⟩⟩
theorem boxw (v : World) (T : TypeId) (vs : List Value) : ∃ V, V = v.alloc (.cells vs.toArray T) ∧ v.Since v.heap.size V ∧ Ge v.heap.size V (bxv T v.heap.size vs) :=
  ⟨_, rfl, (World.Since.refl _ _).alloc (Nat.le_refl _) _, boxv_ge v T vs⟩
theorem boxe (v : World) (T : TypeId) (xs : List Nat) : ∃ V, V = v.alloc (.cells (xs.map fun x => Value.float .f32 x).toArray T) ∧ v.Since v.heap.size V ∧ Ge v.heap.size V (bxf T v.heap.size xs) :=
  boxw v T _
def PEB (n0 : Nat) (f0 : Nat → O) (b : Bool) (w : World) (e : Ending) (w' : World) : Prop :=
  ∃ (p : Ls) (c : Nat), e = .returned (.tuple #[.slice p.A p.n c, .bool b]) ∧ p.n = n0 ∧ Ge w.heap.size w' (fe p.A p.n p.xs) ∧ Are p f0 ∧ w.Since w.heap.size w'
theorem PEB.none_ {w w' : World} (s : w.Since w.heap.size w') (f0 : Nat → O) : PEB 0 f0 false w (.returned (.tuple #[.slice none 0 0, .bool false])) w' :=
  ⟨⟨none, 0, []⟩, 0, rfl, rfl, Gs.nil_.toE, (fun k hk => by simp at hk), s⟩
theorem PLB.toE {n0 : Nat} {f0 : Nat → O} {b : Bool} {w w' : World} {e : Ending} (h : PLB n0 f0 b w e w') : PEB n0 f0 b w e w' := by
  obtain ⟨p, c, h1, h2, h3, h4, h5⟩ := h
  exact ⟨p, c, h1, h2, h3.toE, h4, h5⟩
/-- two lists and a yes or no -/
def PEEB (n0 : Nat) (f0 : Nat → O) (n1 : Nat) (f1 : Nat → O) (b : Bool) (w : World) (e : Ending) (w' : World) : Prop :=
  ∃ (p q : Ls) (c d : Nat), e = .returned (.tuple #[.slice p.A p.n c, .slice q.A q.n d, .bool b]) ∧ p.n = n0 ∧ q.n = n1 ∧ Ge w.heap.size w' (fe p.A p.n p.xs) ∧ Ge w.heap.size w' (fe q.A q.n q.xs) ∧ Are p f0 ∧ Are q f1 ∧ De (fe p.A p.n p.xs) (fe q.A q.n q.xs) ∧ w.Since w.heap.size w'
theorem PEEB.none_ {w w' : World} (s : w.Since w.heap.size w') (f0 f1 : Nat → O) : PEEB 0 f0 0 f1 false w (.returned (.tuple #[.slice none 0 0, .slice none 0 0, .bool false])) w' :=
  ⟨⟨none, 0, []⟩, ⟨none, 0, []⟩, 0, 0, rfl, rfl, rfl, Gs.nil_.toE, Gs.nil_.toE, (fun k hk => by simp at hk), (fun k hk => by simp at hk), (fun g h _ => by simp [fe, ce] at h), s⟩
end Go.Proofs.Ytipdgnhbmfmhnaa

/- Folds: rows of floats that whole lists are appended to; the model's fold. -/
set_option linter.unusedVariables false
set_option linter.unusedSimpArgs false
namespace Go.Proofs.Ytipdgnhbmfmhnaa
open Fl Go.RowKit
theorem fvl_app (xs ys : List Nat) : fvl xs ++ fvl ys = fvl (xs ++ ys) := by unfold fvl; simp
theorem wd_app (xs ys : List Nat) (j : Nat) : wd (xs ++ ys) j = if j < xs.length then wd xs j else wd ys (j - xs.length) := by
  unfold wd
  split
  · next h => simp [List.getD_eq_getElem?_getD, List.getElem?_append_left h]
  · next h => simp [List.getD_eq_getElem?_getD, List.getElem?_append_right (Nat.le_of_not_lt h)]
set_option maxRecDepth 100000 in
theorem wpList_appN {ops : Array Oper} {rest : List Oper} {o : Oper} {a : Act} {Q : Exit → Act → World → Prop} {w : World} (hgd : o.guard = none) (s x : Operand)
    (ho : o.op = .call { callee := .builtin .append, args := #[s, x], argTypes := #[26, 26] }) (lo : Nat) (v : Value) (k : Nat) (F : Nat → O) (hs : a.eval s = v) (A : Option Addr) (m c : Nat) (xs : List Nat) (B : Nat)
    (hx : a.eval x = .slice A m c) (hnone : A = none → m = 0 ∧ c = 0) (hA : Hid (Fs w B A m xs)) (hF : ∀ j, j < m → F (k + j) = ab .f32 (wd xs j)) (hk : k + m ≤ 1048576) (hlo : lo ≤ w.heap.size) (hR : Rw lo w v k F)
    (h : ∀ v' w', Hid (Rw lo w' v' (k + m) F) → Hid (w.Since lo w') → wpList Try.prog ops Q rest (a.put o.dst v') w') : wpList Try.prog ops Q (o :: rest) a w := by
  obtain ⟨os, h1, h2, h3⟩ := hR
  obtain ⟨i0, hi, hz0, hz1, hz2⟩ := info_parts Try.infoF
  have HA := hA.out
  cases A with
  | none =>
    obtain ⟨rfl, rfl⟩ := hnone rfl
    exact wpList_append_own_none (P := Try.prog) hgd s x 26 ho lo 24 i0 1 Try.underlying26 hi v k (fvl os) (by rw [hs]) h1 hx (h v w (Lib.hid ⟨os, h1, h2, h3⟩) (Lib.hid (World.Since.refl _ _)))
  | some ad =>
  refine wpList_append_own (P := Try.prog) w hgd s x 26 ho lo 24 i0 (.float .f32 0) 1 4 Try.underlying26 hi hz0 hz1 hz2 rfl (by omega) v k (fvl os) hs h1 ad m c (fvl xs) hx ?_ ?_ ?_ ?_ ?_ hlo ?_
  · rw [fvl, List.length_map, HA.1, Nat.mul_one]
  · intro j u hj
    have hlt : j < m := by
      have := (List.getElem?_eq_some_iff.1 hj).1
      rw [fvl, List.length_map, HA.1] at this; exact this
    obtain ⟨g, off, e, _, hc⟩ := HA.2.2 (by omega)
    injection e with e
    subst e
    have := hc j hlt
    rw [show (Addr.mk g off none).add j = ⟨g, off + j, none⟩ by simp [Addr.add], this]
    rw [← hj]
    unfold fvl fv wd
    simp [List.getD_eq_getElem?_getD, List.getElem?_eq_getElem (show j < xs.length by rw [HA.1]; exact hlt)]
  · intro u hu
    obtain ⟨x, _, rfl⟩ := List.mem_map.1 hu
    rfl
  · unfold maxLen; omega
  · omega
  · intro v' w' hown hg _
    have hyl : os.length = k := by simpa [fvl] using h1.1
    refine h v' w' (Lib.hid ⟨os ++ xs, ?_, fun x hx => ?_, fun j hj => ?_⟩) (Lib.hid ⟨hg.os, hg.tape, hg.output, hg.size, fun i hi => ?_⟩)
    · rw [← fvl_app]; exact hown
    · rcases List.mem_append.1 hx with h4 | h4
      · exact h2 x h4
      · exact HA.2.1 x h4
    · rw [wd_app, hyl]
      by_cases e : j < k
      · rw [if_pos e]; exact h3 j e
      · rw [if_neg e, ← hF (j - k) (by omega)]; congr 1; omega
    · refine hg.block i (by omega) fun e => ?_
      have := own_lo h1 i e.symm
      omega
theorem Rw.end_ {lo : Nat} {w : World} {v : Value} {k : Nat} {F : Nat → O} (h : Rw lo w v k F) : ∃ (A : Option Addr) (c : Nat) (xs : List Nat), v = .slice A k c ∧ k ≤ c ∧ (A = none → k = 0 ∧ c = 0) ∧ (∀ a, A = some a → ∃ g, a = ⟨g, 0, none⟩ ∧ lo ≤ g) ∧ Gs 24 w lo A k xs ∧ Are ⟨A, k, xs⟩ F := by
  obtain ⟨os, h1, hs, hf⟩ := h
  rcases h1.2 with ⟨rfl, rfl⟩ | ⟨g, cap, cur, rfl, hg, _, hk, _⟩
  · exact ⟨none, 0, os, rfl, Nat.le_refl _, fun _ => ⟨rfl, rfl⟩, (fun a h => by cases h), Gs.of_own h1 hs, hf⟩
  · exact ⟨some ⟨g, 0, none⟩, cap, os, rfl, hk, (fun h => by cases h), fun a h => by cases h; exact ⟨g, rfl, hg⟩, Gs.of_own h1 hs, hf⟩
theorem Fs.nil_ {w : World} {A : Option Addr} : Fs w 0 A 0 [] := ⟨rfl, (fun x hx => by cases hx), (fun h => by omega)⟩
/-- the last ones of a list -/
theorem Fs.tail {w : World} {B n m : Nat} {g off : Nat} {xs : List Nat} (h : Fs w B (some ⟨g, off, none⟩) (n + m) xs) : Fs w B (some ⟨g, off + n, none⟩) m (xs.drop n) :=
  ⟨by rw [List.length_drop, h.1]; omega, fun x hx => h.2.1 x (List.mem_of_mem_drop hx), fun hm => by
    obtain ⟨g', off', e, hg, hc⟩ := h.2.2 (by omega)
    injection e with e
    injection e with e1 e2 _
    subst e1; subst e2
    refine ⟨g, off + n, rfl, hg, fun k hk => ?_⟩
    have := hc (n + k) (by omega)
    rw [← Nat.add_assoc] at this
    rw [this]
    unfold fv wd
    simp [List.getD_eq_getElem?_getD]⟩
theorem wd_drop (xs : List Nat) (n k : Nat) : wd (xs.drop n) k = wd xs (n + k) := by unfold wd; simp [List.getD_eq_getElem?_getD]
def apO (xs ys : List Nat) (n j : Nat) : O := if j < n then ab .f32 (wd xs j) else ab .f32 (wd ys (j - n))
def fsum (T Z : Nat → O) (p : Nat) : Nat → O
  | 0 => some 0
  | k + 1 => opO .add .f32 (fsum T Z p k) (opO .mul .f32 (T k) (Z (p - k)))
def foldF (T Z : Nat → O) (l t i : Nat) : O := fsum T Z (l + i) t
def offO (Z : Nat → O) (n j : Nat) : O := Z (n + j)
def PEE (n0 : Nat) (f0 : Nat → O) (n1 : Nat) (f1 : Nat → O) (w : World) (e : Ending) (w' : World) : Prop :=
  ∃ (p q : Ls) (c d : Nat), e = .returned (.tuple #[.slice p.A p.n c, .slice q.A q.n d]) ∧ Hid (p.n = n0) ∧ Hid (q.n = n1) ∧ Hid (Ge w.heap.size w' (fe p.A p.n p.xs)) ∧ Hid (Ge w.heap.size w' (fe q.A q.n q.xs)) ∧ Hid (Are p f0) ∧ Hid (Are q f1) ∧ Hid (De (fe p.A p.n p.xs) (fe q.A q.n q.xs)) ∧ Hid (w.Since w.heap.size w')
end Go.Proofs.Ytipdgnhbmfmhnaa

/- Filters: copies of samples; one filter over samples, the program's. -/
set_option linter.unusedVariables false
set_option linter.unusedSimpArgs false
namespace Go.Proofs.Ytipdgnhbmfmhnaa
open Fl Go.RowKit
theorem Try.infoMem : (Try.prog.info? 29).map (fun i => (i.zero, i.size, i.bytes)) = some (some (.agg #[.float .f32 0, .float .f32 0, .float .f32 0, .float .f32 0]), 4, 16) := by kernel_rfl
end Go.Proofs.Ytipdgnhbmfmhnaa

/- Filters: RunFilter, the program's; what fails. -/
set_option linter.unusedVariables false
set_option linter.unusedSimpArgs false
namespace Go.Proofs.Ytipdgnhbmfmhnaa
open Fl Go.RowKit
/-- a list in a block of its own, or none, and a memory -/
def PLMBo (n0 : Nat) (f0 : Nat → O) (M : Mem) (b : Bool) (w : World) (e : Ending) (w' : World) : Prop :=
  ∃ (p : Ls) (c : Nat) (m : MemN), e = .returned (.tuple #[.slice p.A p.n c, m.val, .bool b]) ∧ p.n = n0 ∧ Gs 24 w' w.heap.size p.A p.n p.xs ∧ Are p f0 ∧ FvM m M ∧ w.Since w.heap.size w' ∧ (p.A = none → n0 = 0 ∧ c = 0) ∧ (∀ a, p.A = some a → ∃ g, a = ⟨g, 0, none⟩)
end Go.Proofs.Ytipdgnhbmfmhnaa

/- Small laws on filters, walked. -/
set_option linter.unusedVariables false
set_option linter.unusedSimpArgs false
namespace Go.Proofs.Ytipdgnhbmfmhnaa
open Fl Go.RowKit
theorem fvOne : Hid (Fv .f32 1065353216 (some 1065353216)) := Lib.hid ⟨by decide, by rw [ab32]; rfl⟩
def FilPost (w : World) (F : Fil) (e : Ending) (w' : World) : Prop := ∃ b0 b1 b2 a1 a2 : Nat, e = .returned (.agg #[.float .f32 b0, .float .f32 b1, .float .f32 b2, .float .f32 a1, .float .f32 a2]) ∧ FvF ⟨b0, b1, b2, a1, a2⟩ F ∧ w.Since w.heap.size w'
def FloPost (w : World) (F : O) (e : Ending) (w' : World) : Prop := ∃ r : Nat, e = .returned (.float .f32 r) ∧ Hid (Fv .f32 r F) ∧ w.Since w.heap.size w'

set_option maxRecDepth 100000 in
theorem implSmooth_any (x : Nat) (X : O) (w : World) (hx : Hid (Fv .f32 x X)) :
    Calls Try.prog 7 #[.float .f32 x] w (FilPost w ⟨X, some 0, some 0, su X (some 1065353216), some 0⟩) := by
  have h1 := fvOne
  go_enter Try.func7, Try.ntmps7
  go_wp2_with (with_reducible_and_instances refine Lo.wpList_fo _ rfl _ _ _ _ _ rfl _ _ _ _ _ rfl rfl rfl (by assumption) (by assumption) ?_; intro rr nn hrr)
  exact bodyPost_ret (v := .agg #[.float .f32 x, .float .f32 0, .float .f32 0, .float .f32 rr, .float .f32 0]) (by simp [results, Try.results7, go_sem]) rfl ⟨x, 0, 0, rr, 0, rfl, ⟨hx, fvZ, fvZ, hrr, fvZ⟩, by (repeat (first | (with_reducible refine Fl.sinDrew ?_) | (with_reducible refine World.Since.drew ?_) | (with_reducible refine Fl.sinSet ?_ ?_; rotate_left) | (with_reducible refine Fl.sinAlloc ?_ ?_; rotate_left) | with_reducible exact World.Since.refl _ _ | with_reducible assumption | (with_reducible refine Fl.sinStep (by with_reducible assumption) ?_))); all_goals (first | omega | (simp; done) | (simp; omega) | (simp [go_sem]; done) | (simp [go_sem]; omega))⟩
def ofF (f : FilN) : Fil := ⟨ab .f32 f.b0, ab .f32 f.b1, ab .f32 f.b2, ab .f32 f.a1, ab .f32 f.a2⟩
def ofM (m : MemN) : Mem := ⟨ab .f32 m.a, ab .f32 m.b, ab .f32 m.c, ab .f32 m.d⟩
end Go.Proofs.Ytipdgnhbmfmhnaa

/- What is known of a slot: lists of numbers, boxes. -/
set_option linter.unusedVariables false
set_option linter.unusedSimpArgs false
namespace Go.Proofs.Ytipdgnhbmfmhnaa
open Fl Go.RowKit
namespace Lk
/-- an entry among these blocks, behind lo -/
def EnK (lo : Nat) (e : En) (S : Fp) (w : World) : Prop := e.P w ∧ (∀ w w' : World, (∀ g, e.S g → w'.heap[g]? = w.heap[g]?) → e.P w → e.P w') ∧ (∀ k, e.S k → S k) ∧ ∀ k, e.S k → lo ≤ k
theorem EnK.keep {lo : Nat} {e : En} {S : Fp} {w w' : World} (h : EnK lo e S w) (hs : ∀ g, S g → w'.heap[g]? = w.heap[g]?) : EnK lo e S w' := ⟨h.2.1 w w' (fun g hg => hs g (h.2.2.1 g hg)) h.1, h.2⟩
theorem EnK.of {lo B : Nat} {e : En} {w : World} (h : Ge B w e) (hl : lo ≤ B) : EnK lo e e.S w := ⟨h.1, h.2.1, fun _ h => h, fun k hk => Nat.le_trans hl (h.2.2 k hk).1⟩
theorem EnK.ge {lo : Nat} {e : En} {S : Fp} {w : World} (h : EnK lo e S w) (hb : ∀ g, S g → g < w.heap.size) : Ge lo w e := ⟨h.1, h.2.1, fun g hg => ⟨h.2.2.2 g hg, hb g (h.2.2.1 g hg)⟩⟩
theorem EnK.readF {lo n : Nat} {A : Option Addr} {xs : List Nat} {S : Fp} {w : World} (h : EnK lo (fe A n xs) S w) : Fs w w.heap.size A n xs :=
  ⟨h.1.1.1, h.1.1.2, fun hn => by
    obtain ⟨g, off, cs, e, hb, hc⟩ := h.1.2 hn
    refine ⟨g, off, e, (Array.getElem?_eq_some_iff.1 hb).1, fun k hk => ?_⟩
    simp only [World.cell?, hb]
    simpa using hc k hk⟩
/-- a copy of numbers -/
def xK (lo n : Nat) (xs : List Nat) : Kd where
  p := fun u S w => ∃ B : Nat, u = .slice (some ⟨B, 0, none⟩) n n ∧ EnK lo (fe (some ⟨B, 0, none⟩) n xs) S w
  stable := fun u S w w' h hp => by
    obtain ⟨B, e, hb⟩ := hp
    exact ⟨B, e, hb.keep h⟩
  bx := false
/-- a list of numbers -/
def feK (lo n0 : Nat) (f0 : Nat → O) : Kd where
  p := fun u S w => ∃ (p : Ls) (c : Nat), u = .slice p.A p.n c ∧ p.n = n0 ∧ Are p f0 ∧ EnK lo (fe p.A p.n p.xs) S w
  stable := fun u S w w' h hp => by
    obtain ⟨p, c, e, h1, h2, hb⟩ := hp
    exact ⟨p, c, e, h1, h2, hb.keep h⟩
  bx := false
theorem box_ge {T : TypeId} {Pc : List Value → Prop} {u : Value} {S : Fp} {w : World} {lo : Nat} (h : (bxK T Pc).p u S w) (hb : ∀ g, S g → g < w.heap.size) (hl : ∀ g, S g → lo ≤ g) : ∃ g cs, u = .pointer (some ⟨g, 0, none⟩) ∧ Pc cs ∧ (∀ k, S k ↔ k = g) ∧ Ge lo w (bxv T g cs) := by
  obtain ⟨g, cs, e, hS, hh, hc⟩ := h
  exact ⟨g, cs, e, hc, hS, hh, fun w w' h hp => (h g rfl).trans hp, fun k hk => by
    have hk' : k = g := hk
    subst hk'
    exact ⟨hl k ((hS k).2 rfl), hb k ((hS k).2 rfl)⟩⟩
theorem box_de {T : TypeId} {g : Nat} {cs : List Value} {S S' : Fp} {e : En} {lo : Nat} {w : World} (hS : ∀ k, S k ↔ k = g) (hd : ∀ k, S k → ¬ S' k) (h : EnK lo e S' w) : De (bxv T g cs) e := fun k hk he => hd k ((hS k).2 hk) (h.2.2.1 k he)
end Lk
end Go.Proofs.Ytipdgnhbmfmhnaa

/- What is known of a slot: a memory; a list, a memory and a yes or no. -/
set_option linter.unusedVariables false
set_option linter.unusedSimpArgs false
namespace Go.Proofs.Ytipdgnhbmfmhnaa
open Fl Go.RowKit
namespace Lk
def mK (M : Mem) : Kd where
  p := fun u S w => ∃ m : MemN, u = .agg #[.float .f32 m.a, .float .f32 m.b, .float .f32 m.c, .float .f32 m.d] ∧ FvM m M
  stable := fun u S w w' h hp => hp
  bx := false
def plmK (lo n0 : Nat) (f0 : Nat → O) (M : Mem) (b : Bool) : Kd where
  p := fun u S w => ∃ (p : Ls) (c : Nat) (m : MemN), u = .tuple #[.slice p.A p.n c, .agg #[.float .f32 m.a, .float .f32 m.b, .float .f32 m.c, .float .f32 m.d], .bool b] ∧ p.n = n0 ∧ Are p f0 ∧ FvM m M ∧ EnK lo (fe p.A p.n p.xs) S w
  stable := fun u S w w' h hp => by
    obtain ⟨p, c, m, e, h1, h2, h3, hb⟩ := hp
    exact ⟨p, c, m, e, h1, h2, h3, hb.keep h⟩
  bx := false
/-- a memory's cells -/
def isMem (M : Mem) (cs : List Value) : Prop := ∃ a b c d : Nat, cs = [a, b, c, d].map (fun x => Value.float .f32 x) ∧ FvM ⟨a, b, c, d⟩ M
theorem plm_of {lo n0 : Nat} {f0 : Nat → O} {M : Mem} {b : Bool} {w w' : World} {e : Ending} (hl : lo ≤ w.heap.size) (h : PLMB n0 f0 M b w e w') : ∃ u S, e = .returned u ∧ nb u ∧ (plmK lo n0 f0 M b).p u S w' ∧ w.Since w.heap.size w' ∧ ∀ g, S g → w.heap.size ≤ g ∧ g < w'.heap.size := by
  obtain ⟨p, c, m, rfl, h1, h2, h3, h4, h5⟩ := h
  have hg := h2.toE
  exact ⟨_, (fe p.A p.n p.xs).S, rfl, trivial, ⟨p, c, m, rfl, h1, h3, h4, EnK.of hg hl⟩, h5, hg.2.2⟩
end Lk
end Go.Proofs.Ytipdgnhbmfmhnaa

/- Draws: bytes that can be read, and the source of draws. -/
set_option linter.unusedVariables false
set_option linter.unusedSimpArgs false
namespace Go.Proofs.Ytipdgnhbmfmhnaa
open Fl Go.RowKit
theorem and255u (z : Int) : 0 ≤ wrap64 (bits BinOp.and IntKind.u64 z 255) ∧ wrap64 (bits BinOp.and IntKind.u64 z 255) < 256 := by
  have h : bits BinOp.and IntKind.u64 z 255 = z % 256 := by
    have hb : (BitVec.ofInt 64 255).toNat = 255 := by decide
    have ha : (BitVec.ofInt 64 z).toNat = (z % 18446744073709551616).toNat := by rw [BitVec.toNat_ofInt]; rfl
    have hw : ∀ n : Nat, n < 256 → IntKind.u64.wrap (n : Int) = n := fun n h => by rw [IntKind.wrap_u64]; omega
    show IntKind.u64.wrap (((BitVec.ofInt 64 z &&& BitVec.ofInt 64 255).toNat : Nat) : Int) = _
    rw [BitVec.toNat_and, ha, hb]
    have e : ∀ n : Nat, n &&& 255 = n % 256 := fun n => Nat.and_two_pow_sub_one_eq_mod n 8
    rw [e, hw _ (Nat.mod_lt _ (by decide))]
    omega
  rw [h]
  unfold wrap64
  omega
/-- bytes that can be read -/
def Bs (w : World) (B : Nat) (A : Option Addr) (n : Nat) (xs : List Int) : Prop :=
  xs.length = n ∧ (∀ k, 0 ≤ wi xs k ∧ wi xs k < 256) ∧ (0 < n → ∃ g off, A = some ⟨g, off, none⟩ ∧ g < B ∧ ∀ k, k < n → w.cell? ⟨g, off + k, none⟩ = some (.int .u8 (wi xs k)))
theorem Bs.keep {w w' : World} {B : Nat} {A : Option Addr} {n : Nat} {xs : List Int} (h : Bs w B A n xs) (hk : ∀ g o, g < B → w'.cell? ⟨g, o, none⟩ = w.cell? ⟨g, o, none⟩) : Bs w' B A n xs :=
  ⟨h.1, h.2.1, fun hn => by
    obtain ⟨g, off, e, hg, hc⟩ := h.2.2 hn
    exact ⟨g, off, e, hg, fun k hk' => (hk g _ hg).trans (hc k hk')⟩⟩
theorem Bs.more {w : World} {B B' : Nat} {A : Option Addr} {n : Nat} {xs : List Int} (h : Bs w B A n xs) (hB : B ≤ B') : Bs w B' A n xs :=
  ⟨h.1, h.2.1, fun hn => by
    obtain ⟨g, off, e, hg, hc⟩ := h.2.2 hn
    exact ⟨g, off, e, by omega, hc⟩⟩
theorem Bs.since {w w' : World} {B B' : Nat} {A : Option Addr} {n : Nat} {xs : List Int} (h : Bs w B A n xs) (hs : w.Since B' w') (hB : B ≤ B') : Bs w' B A n xs :=
  h.keep fun g o hg => hs.cell (a := ⟨g, o, none⟩) (by show g < B'; omega)
theorem Bs.drewN {w : World} {B : Nat} {A : Option Addr} {n : Nat} {xs : List Int} (h : Bs w B A n xs) (m : Nat) : Bs (w.drewN m) B A n xs := h.keep fun _ _ _ => rfl
/-- a source's block -/
def SrcB (w : World) (b : Nat) (A : Option Addr) (n c : Nat) (i sd : Int) : Prop := w.heap[b]? = some (.cells #[.slice A n c, .int .i64 i, .int .u64 sd] 57 (0, 0))
theorem SrcB.lt {w : World} {b n c : Nat} {A : Option Addr} {i sd : Int} (h : SrcB w b A n c i sd) : b < w.heap.size := (Array.getElem?_eq_some_iff.1 h).1
theorem SrcB.c0 {w : World} {b n c : Nat} {A : Option Addr} {i sd : Int} (h : SrcB w b A n c i sd) : w.cell? ⟨b, 0, none⟩ = some (.slice A n c) := by unfold SrcB at h; simp [World.cell?, h]
theorem SrcB.c1 {w : World} {b n c : Nat} {A : Option Addr} {i sd : Int} (h : SrcB w b A n c i sd) : w.cell? ⟨b, 1, none⟩ = some (.int .i64 i) := by unfold SrcB at h; simp [World.cell?, h]
theorem SrcB.c2 {w : World} {b n c : Nat} {A : Option Addr} {i sd : Int} (h : SrcB w b A n c i sd) : w.cell? ⟨b, 2, none⟩ = some (.int .u64 sd) := by unfold SrcB at h; simp [World.cell?, h]
theorem SrcB.free {w : World} {b n c q : Nat} {A : Option Addr} {i sd : Int} (h : SrcB w b A n c i sd) : w.frozen? ⟨b, q, none⟩ = false := by unfold SrcB at h; simp [World.frozen?, h]
theorem SrcB.of {w w' : World} {b n c : Nat} {A : Option Addr} {i sd : Int} (h : SrcB w b A n c i sd) (e : w'.heap[b]? = w.heap[b]?) : SrcB w' b A n c i sd := e.trans h
theorem SrcB.set1 {w : World} {b n c : Nat} {A : Option Addr} {i sd i' : Int} (h : SrcB w b A n c i sd) : SrcB (w.setCell ⟨b, 1, none⟩ (.int .i64 i')) b A n c i' sd := by
  unfold SrcB at h ⊢
  simp [World.setCell, Array.getElem?_modify, h]
theorem SrcB.set2 {w : World} {b n c : Nat} {A : Option Addr} {i sd sd' : Int} (h : SrcB w b A n c i sd) : SrcB (w.setCell ⟨b, 2, none⟩ (.int .u64 sd')) b A n c i sd' := by
  unfold SrcB at h ⊢
  simp [World.setCell, Array.getElem?_modify, h]
/-- a source in block b that has drawn at most K times, whose bytes lie in blocks before B -/
def Src (B b K : Nat) (w : World) : Prop := ∃ (A : Option Addr) (n c : Nat) (xs : List Int) (i sd : Int), SrcB w b A n c i sd ∧ Bs w B A n xs ∧ B ≤ b ∧ n ≤ 1048576 ∧ 0 ≤ i ∧ i ≤ (K : Int)
theorem Src.on {B b K : Nat} {w w' : World} (h : Src B b K w) (hs : w.Since (b + 1) w') : Src B b K w' := by
  obtain ⟨A, n, c, xs, i, sd, h1, h2, h3, h4, h5⟩ := h
  exact ⟨A, n, c, xs, i, sd, h1.of (hs.block b (by omega)), h2.since hs (by omega), h3, h4, h5⟩
theorem Src.up {B b K K' : Nat} {w : World} (h : Src B b K w) (hK : K ≤ K') : Src B b K' w := by
  obtain ⟨A, n, c, xs, i, sd, h1, h2, h3, h4, h5, h6⟩ := h
  exact ⟨A, n, c, xs, i, sd, h1, h2, h3, h4, h5, by omega⟩
theorem Src.lt {B b K : Nat} {w : World} (h : Src B b K w) : b < w.heap.size := by
  obtain ⟨A, n, c, xs, i, sd, h1, h2, h3, h4, h5, h6⟩ := h
  exact h1.lt
theorem Src.drewN {B b K : Nat} {w : World} (h : Src B b K w) (m : Nat) : Src B b K (w.drewN m) := h.on (since_drewN (World.Since.refl _ _) m)
theorem on_post {b lo : Nat} {w a c : World} (h : On b w a) (s : a.Since lo c) (hl : w.heap.size ≤ lo) (hb : b < w.heap.size) : On b w c :=
  ⟨h.1.trans (since_mono s (by omega)), fun x hx hn => (s.block x (by omega)).trans (h.2 x hx hn)⟩
theorem Src.low {B b K : Nat} {w : World} (h : Src B b K w) : B ≤ b := by
  obtain ⟨A, n, c, xs, i, sd, h1, h2, h3, h4, h5, h6⟩ := h
  exact h3
set_option maxHeartbeats 4000000 in
set_option maxRecDepth 100000 in
theorem next_any (B b K : Nat) (w : World) (h : Src B b K w) (hK : K ≤ 1000000000) :
    Calls Try.prog 27 #[.pointer (some ⟨b, 0, none⟩)] w fun e w' => ∃ v : Int, e = .returned (.int .i64 v) ∧ 0 ≤ v ∧ v < 256 ∧ Src B b (K + 1) w' ∧ On b w w' := by
  obtain ⟨A, n, c, xs, i, sd, h1, h2, h3, h4, h5, h6⟩ := h
  have H1 := Lib.hid h1; have H2 := Lib.hid h2
  have c0 := h1.c0; have c1 := h1.c1; have c2 := h1.c2
  have f1 := h1.free (q := 1); have f2 := h1.free (q := 2)
  clear h1 h2
  by_cases hi : i < (n : Int)
  · have hd : decide (i < (n : Int)) = true := decide_eq_true hi
    have hd2 : decide (i + 1 ≤ (n : Int)) = true := decide_eq_true (by omega)
    obtain ⟨j, rfl⟩ := Int.eq_ofNat_of_zero_le h5
    obtain ⟨g, off, rfl, hg, hc⟩ := H2.out.2.2 (by omega)
    have hcell := hc j (by omega)
    have hv := H2.out.2.1 j
    clear hc
    go_enter Try.func27, Try.ntmps27
    go_wp2_with fail
    go_quiet (fail)
    go_wp2_with fail
    go_quiet (fail)
    go_wp2_with fail
    generalize IntKind.wrap .u64 (IntKind.wrap .u64 (_ + _) + 1442695040888963407) = sd'
    generalize hW : World.setCell _ _ _ = W
    have B1 : Hid (SrcB W b (some ⟨g, off, none⟩) n c ((j : Int) + 1) sd') := Lib.hid (by rw [← hW]; exact H1.out.set1.set2)
    have O1 : Hid (On b w W) := Lib.hid (by rw [← hW]; exact ((On.refl _ _).set _ _).set _ _)
    have d0 := B1.out.c0; have d1 := B1.out.c1; have d2 := B1.out.c2
    clear hW
    go_quiet (fail)
    go_wp2
    go_ret
    exact ⟨_, rfl, hv.1, hv.2, ⟨_, n, c, xs, _, sd', B1.out, by first | exact (H2.out.since O1.out.1 h3).drewN _ | exact ((H2.out.since O1.out.1 h3).drewN _).drewN _, h3, h4, by omega, by omega⟩, by first | exact O1.out.drewN _ | exact (O1.out.drewN _).drewN _⟩
  · have hd : decide (i < (n : Int)) = false := decide_eq_false hi
    have hd2 : decide (i + 1 ≤ (n : Int)) = false := decide_eq_false (by omega)
    go_enter Try.func27, Try.ntmps27
    go_wp2_with fail
    go_quiet (fail)
    go_wp2_with fail
    generalize IntKind.wrap .u64 (IntKind.wrap .u64 _ + 1442695040888963407) = sd'
    generalize hW : World.setCell _ _ _ = W
    have B1 : Hid (SrcB W b A n c (i + 1) sd') := Lib.hid (by rw [← hW]; exact H1.out.set1.set2)
    have O1 : Hid (On b w W) := Lib.hid (by rw [← hW]; exact ((On.refl _ _).set _ _).set _ _)
    have d0 := B1.out.c0; have d1 := B1.out.c1; have d2 := B1.out.c2
    clear hW
    go_quiet (fail)
    go_wp2
    go_ret
    have h255 := and255u (sd' / 1099511627776)
    exact ⟨_, rfl, h255.1, h255.2, ⟨_, n, c, xs, _, sd', B1.out, by first | exact (H2.out.since O1.out.1 h3).drewN _ | exact ((H2.out.since O1.out.1 h3).drewN _).drewN _, h3, h4, by omega, by omega⟩, by first | exact O1.out.drewN _ | exact (O1.out.drewN _).drewN _⟩
end Go.Proofs.Ytipdgnhbmfmhnaa

/- Draws: picks of numbers. -/
set_option linter.unusedVariables false
set_option linter.unusedSimpArgs false
namespace Go.Proofs.Ytipdgnhbmfmhnaa
open Fl Go.RowKit
set_option maxHeartbeats 4000000 in
set_option maxRecDepth 100000 in
theorem pick_any (B b K : Nat) (n : Int) (w : World) (h : Src B b K w) (hK : K ≤ 1000000) (hn : n ≤ 1000000000) :
    Calls Try.prog 18 #[.pointer (some ⟨b, 0, none⟩), .int .i64 n] w fun e w' => ∃ v : Int, e = .returned (.int .i64 v) ∧ 0 ≤ v ∧ (1 ≤ n → v < n) ∧ Src B b (K + 2) w' ∧ On b w w' := by
  by_cases h1 : n ≤ 1
  · have hd : decide (n ≤ 1) = true := decide_eq_true h1
    go_enter Try.func18, Try.ntmps18
    go_wp2
    go_ret
    exact ⟨0, rfl, by omega, fun _ => by omega, h.up (by omega), On.refl _ _⟩
  · have hd : decide (n ≤ 1) = false := decide_eq_false h1
    have hz : n ≠ 0 := by omega
    have HH := Lib.hid h; clear h
    by_cases h2 : 200 < n
    · have hd2 : decide (200 < n) = true := decide_eq_true h2
      go_enter Try.func18, Try.ntmps18
      go_wp2_with fail
      refine (next_any B b K w HH.out (by omega)).mono ?_
      rintro e w1 ⟨v1, rfl, a1, a2, s1, o1⟩
      have S1 := Lib.hid s1; have O1 := Lib.hid o1; clear s1 o1
      go_wp2_with fail
      refine (next_any B b (K + 1) w1 S1.out (by omega)).mono ?_
      rintro e w2 ⟨v2, rfl, a3, a4, s2, o2⟩
      have S2 := Lib.hid s2; have O2 := Lib.hid o2; clear s2 o2
      go_wp2
      go_ret
      exact ⟨_, rfl, by exact Int.emod_nonneg _ hz, fun _ => by exact Int.emod_lt_of_pos _ (by omega), S2.out, O1.out.trans O2.out⟩
    · have hd2 : decide (200 < n) = false := decide_eq_false h2
      go_enter Try.func18, Try.ntmps18
      go_wp2_with fail
      refine (next_any B b K w HH.out (by omega)).mono ?_
      rintro e w1 ⟨v1, rfl, a1, a2, s1, o1⟩
      have S1 := Lib.hid s1; have O1 := Lib.hid o1; clear s1 o1
      go_wp2
      go_ret
      exact ⟨_, rfl, by exact Int.emod_nonneg _ hz, fun _ => by exact Int.emod_lt_of_pos _ (by omega), S1.out.up (by omega), O1.out⟩
theorem one_any (B b K : Nat) (n : Int) (w : World) (h : Src B b K w) (hK : K ≤ 1000000) (hn : n ≤ 1000000000) :
    Calls Try.prog 19 #[.pointer (some ⟨b, 0, none⟩), .int .i64 n] w fun e w' => ∃ v : Bool, e = .returned (.bool v) ∧ Src B b (K + 2) w' ∧ On b w w' := by
  have HH := Lib.hid h; clear h
  go_enter Try.func19, Try.ntmps19
  go_wp2_with fail
  refine (pick_any B b K n w HH.out hK hn).mono ?_
  rintro e w1 ⟨v1, rfl, a1, a2, s1, o1⟩
  have S1 := Lib.hid s1; have O1 := Lib.hid o1; clear s1 o1
  go_wp2
  go_ret
  exact ⟨_, rfl, S1.out, O1.out⟩
end Go.Proofs.Ytipdgnhbmfmhnaa

/- Draws: numbers and lists of numbers, of any bits. -/
set_option linter.unusedVariables false
set_option linter.unusedSimpArgs false
namespace Go.Proofs.Ytipdgnhbmfmhnaa
open Fl Go.RowKit
set_option maxHeartbeats 4000000 in
set_option maxRecDepth 100000 in
theorem plain_any (B b K : Nat) (w : World) (h : Src B b K w) (hK : K ≤ 900000) :
    Calls Try.prog 12 #[.pointer (some ⟨b, 0, none⟩)] w fun e w' => ∃ q Q, e = .returned (.float .f32 q) ∧ Hid (Fv .f32 q Q) ∧ Src B b (K + 4) w' ∧ On b w w' := by
  have HH := Lib.hid h; clear h
  go_enter Try.func12, Try.ntmps12
  go_wp2_with fail
  refine (pick_any B b K 129 w HH.out (by omega) (by omega)).mono ?_
  rintro e w1 ⟨v1, rfl, a1, a2, s1, o1⟩
  have a3 := a2 (by omega)
  have S1 := Lib.hid s1; have O1 := Lib.hid o1; clear s1 o1 a2
  go_wp2_with fail
  refine (one_any B b (K + 2) 4 w1 S1.out (by omega) (by omega)).mono ?_
  rintro e w2 ⟨v2, rfl, s2, o2⟩
  have S2 := Lib.hid s2; have O2 := Lib.hid o2; clear s2 o2
  have q1 := fI_fv (v1 - 64)
  have q7 : Hid (Fv .f32 1088421888 (some 1088421888)) := fvc (by decide) (by decide)
  have q16 : Hid (Fv .f32 1098907648 (some 1098907648)) := fvc (by decide) (by decide)
  cases v2
  all_goals
    go_wp2_with (with_reducible_and_instances refine Lo.wpList_fo _ rfl _ _ _ _ _ rfl _ _ _ _ _ rfl rfl rfl (by assumption) (by assumption) ?_; intro rr nn hrr)
    go_ret
    exact ⟨_, _, rfl, hrr, S2.out.drewN _, (O1.out.trans O2.out).drewN _⟩
theorem is_alloc (w : World) (T : TypeId) (xs : List Int) : Is (w.alloc (.cells (xs.map (Value.int .i64)).toArray T)) (w.alloc (.cells (xs.map (Value.int .i64)).toArray T)).heap.size (some ⟨w.heap.size, 0, none⟩) xs.length xs :=
  ⟨rfl, fun _ => ⟨w.heap.size, 0, rfl, by simp, fun k hk => by
    have h := Go.Deep.blk_alloc_new w (.cells (xs.map (Value.int .i64)).toArray T)
    rw [Nat.zero_add]
    unfold World.cell?
    simp only [h]
    simp [hk, iv, wi]⟩⟩
def numsA : List Int := [0, 2147483648, 2139095040, 4286578688, 2143289344, 1, 2139095039, 8388608, 8388607, 2147483649]
def numsB : List Int := [8388608, 2130706432, 1610612736, 536870912]
theorem numsA_in : ∀ k, k < 10 → 0 ≤ wi numsA k ∧ wi numsA k < 4294967296 := by decide
theorem numsB_in : ∀ k, k < 4 → 0 ≤ wi numsB k ∧ wi numsB k < 4294967296 := by decide
end Go.Proofs.Ytipdgnhbmfmhnaa

/- Draws: lists of numbers, and what chooses by a byte. -/
set_option linter.unusedVariables false
set_option linter.unusedSimpArgs false
namespace Go.Proofs.Ytipdgnhbmfmhnaa
open Fl Go.RowKit
/-- a row of numbers whatever they are -/
def RwA (lo : Nat) (w : World) (v : Value) (k : Nat) : Prop := (∃ F, Rw lo w v k F) ∧ ∃ g c, v = .slice (some ⟨g, 0, none⟩) k c
theorem Rw.like {lo : Nat} {w : World} {v : Value} {k : Nat} {F G : Nat → O} (h : Rw lo w v k F) (e : ∀ j, j < k → F j = G j) : Rw lo w v k G := by
  obtain ⟨os, h1, h2, h3⟩ := h
  exact ⟨os, h1, h2, fun j hj => (h3 j hj).trans (e j hj)⟩
theorem Rw.fin {lo : Nat} {w : World} {v : Value} {k : Nat} {F : Nat → O} (h : Rw lo w v k F) : ∃ (A : Option Addr) (c : Nat) (xs : List Nat), v = .slice A k c ∧ k ≤ c ∧ (A = none → k = 0 ∧ c = 0) ∧ (∀ a, A = some a → ∃ g, a = ⟨g, 0, none⟩ ∧ lo ≤ g) ∧ Gs 24 w lo A k xs ∧ Are ⟨A, k, xs⟩ F := by
  obtain ⟨os, h1, hs, hf⟩ := h
  rcases h1.2 with ⟨rfl, rfl⟩ | ⟨g, cap, cur, rfl, hg, _, hk, _⟩
  · exact ⟨none, 0, os, rfl, Nat.le_refl _, fun _ => ⟨rfl, rfl⟩, (fun a h => by cases h), Gs.of_own h1 hs, hf⟩
  · exact ⟨some ⟨g, 0, none⟩, cap, os, rfl, hk, (fun h => by cases h), fun a h => by cases h; exact ⟨g, rfl, hg⟩, Gs.of_own h1 hs, hf⟩
theorem RwA.grown {lo : Nat} {w : World} {v : Value} {k : Nat} {F : Nat → O} (h : Rw lo w v (k + 1) F) : RwA lo w v (k + 1) := by
  refine ⟨⟨F, h⟩, ?_⟩
  obtain ⟨A, c, xs, rfl, _, hn, hs, _⟩ := h.fin
  cases A with
  | none => exact absurd (hn rfl).1 (by omega)
  | some a =>
    obtain ⟨g, rfl, _⟩ := hs a rfl
    exact ⟨g, c, rfl⟩
theorem RwA.end_ {lo : Nat} {w : World} {v : Value} {k : Nat} (h : RwA lo w v k) : ∃ g c xs, v = .slice (some ⟨g, 0, none⟩) k c ∧ k ≤ c ∧ Gs 24 w lo (some ⟨g, 0, none⟩) k xs := by
  obtain ⟨⟨F, hF⟩, g, c, rfl⟩ := h
  obtain ⟨A, c', xs, e, hc, _, _, hg, _⟩ := hF.fin
  injection e with e1 e2 e3
  subst e1; subst e3
  exact ⟨g, c, xs, rfl, hc, hg⟩
theorem RwA.pick {lo : Nat} {w : World} {v : Value} {k : Nat} (h : RwA lo w v k) (Q : O) : ∃ F, Rw lo w v k F ∧ F k = Q := by
  obtain ⟨⟨F, hF⟩, _⟩ := h
  exact ⟨fun j => if j = k then Q else F j, hF.like fun j hj => by simp [show j ≠ k by omega], by simp⟩
theorem RwA.on {lo g : Nat} {w w' : World} {v : Value} {k : Nat} (h : RwA lo w v k) (o : On g w w') (hg : g < lo) : RwA lo w' v k := by
  obtain ⟨⟨F, hF⟩, hv⟩ := h
  exact ⟨⟨F, hF.on o hg⟩, hv⟩
/-- numbers that a call has drawn: a list in memory of its own -/
def PDr (n : Nat) (w : World) (e : Ending) (w' : World) : Prop := ∃ (g c : Nat) (xs : List Nat), e = .returned (.slice (some ⟨g, 0, none⟩) n c) ∧ n ≤ c ∧ Gs 24 w' w.heap.size (some ⟨g, 0, none⟩) n xs ∧ w.Since w.heap.size w'
end Go.Proofs.Ytipdgnhbmfmhnaa

/- Draws: what laws draw of their bytes. -/
set_option linter.unusedVariables false
set_option linter.unusedSimpArgs false
namespace Go.Proofs.Ytipdgnhbmfmhnaa
open Fl Go.RowKit
theorem source_any (A : Option Addr) (n c : Nat) (xs : List Int) (w : World) (h : Bs w w.heap.size A n xs) (hn : n ≤ 1048576) :
    Calls Try.prog 11 #[.slice A n c] w fun e w' => e = .returned (.pointer (some ⟨w.heap.size, 0, none⟩)) ∧ Src w.heap.size w.heap.size 0 w' ∧ w.Since w.heap.size w' := by
  have HH := Lib.hid h; clear h
  go_enter Try.func11, Try.ntmps11
  go_wp2
  go_ret
  refine ⟨rfl, ⟨A, n, c, xs, 0, 0, Go.Deep.blk_alloc_new _ _, HH.out.since ((World.Since.refl _ _).alloc (Nat.le_refl _) _) (Nat.le_refl _), Nat.le_refl _, hn, by omega, by omega⟩, (World.Since.refl _ _).alloc (Nat.le_refl _) _⟩
set_option maxHeartbeats 4000000 in
set_option maxRecDepth 100000 in
theorem plains_any (A : Option Addr) (n c : Nat) (xs : List Int) (m : Nat) (w : World) (h : Bs w w.heap.size A n xs) (hn : n ≤ 1048576) (hm : m ≤ 9000) :
    Calls Try.prog 6 #[.slice A n c, .int .i64 (m : Int)] w (PDr m w) := by
  have HH := Lib.hid h; clear h
  go_enter Try.func6, Try.ntmps6
  go_wp2_with fail
  refine (source_any A n c xs w HH.out hn).mono ?_
  rintro e w1 ⟨rfl, s1, t1⟩
  have S1 := Lib.hid s1; have T1 := Lib.hid t1; clear s1 t1
  go_wp2_with fail
  generalize hW : World.alloc _ _ = W
  have z1 := T1.out.size
  have R2 : Hid (RwA w1.heap.size W (.slice (some ⟨w1.heap.size, 0, none⟩) 0 0) 0) := Lib.hid (by rw [← hW]; exact ⟨⟨fun _ => none, Rw.start w1 _ (Nat.le_refl _) _⟩, _, _, rfl⟩)
  have S2 : Hid (Src w.heap.size w.heap.size 0 W) := Lib.hid (S1.out.on (by rw [← hW]; exact (World.Since.refl _ _).alloc (by have := S1.out.lt; omega) _))
  have O2 : Hid (On w.heap.size w1 W) := Lib.hid (by rw [← hW]; exact (On.refl _ _).alloc z1 _)
  have hl1 : w.heap.size < w1.heap.size := S1.out.lt
  clear hW
  go_loopw [6, 7] (fun v i wr => ∃ k : Nat, k ≤ m ∧ i = .int .i64 (k : Int) ∧ RwA w1.heap.size wr v k ∧ Src w.heap.size w.heap.size (4 * k) wr ∧ On w.heap.size w1 wr) (fun _ i _ => m - (intOf i).toNat)
  case atStart => exact ⟨0, Nat.zero_le _, rfl, R2.out, S2.out, O2.out⟩
  case round =>
    obtain ⟨k, hk, rfl, hr, hs, ho⟩ := hrel
    have HR := Lib.hid hr; have HS := Lib.hid hs; have HO := Lib.hid ho
    clear hr hs ho
    by_cases hlt2 : k < m
    · go_wp2_with fail
      refine (plain_any w.heap.size w.heap.size (4 * k) wr HS.out (by omega)).mono ?_
      rintro e w3 ⟨q, Q, rfl, hq, s3, o3⟩
      have S3 : Hid (Src w.heap.size w.heap.size (4 * (k + 1)) w3) := Lib.hid (s3.up (by omega))
      have O3 := Lib.hid (HO.out.trans o3); have R3 := Lib.hid (HR.out.on o3 hl1)
      clear s3 o3
      obtain ⟨F, hF, hFk⟩ := R3.out.pick Q
      have hlo : w1.heap.size ≤ w3.heap.size := O3.out.1.size
      have HF := Lib.hid hF; clear hF
      have hz : Hid (Fv .f32 q (F k)) := by rw [hFk]; exact hq
      go_wp2_with (at_builtin; refine wpList_app1 rfl (.tmp 16) (.tmp 19) rfl w1.heap.size _ k _ rfl _ _ rfl (by simp [go_sem]) (by omega) (by simp; omega) hz (HF.out.alloc _) ?_; intro v' w4 hR4 hS4)
      have hs4 : w3.Since w1.heap.size w4 := ((World.Since.refl _ _).alloc hlo _).trans hS4.out
      have HS4 := Lib.hid hs4; clear hs4
      go_roundw
      case rel => exact ⟨k + 1, by omega, by go_num, RwA.grown hR4.out, S3.out.on (since_mono HS4.out (by omega)), on_post O3.out HS4.out (Nat.le_refl _) hl1⟩
      case measure => simp [intOf]; omega
    · obtain rfl : k = m := by omega
      obtain ⟨g, cp, zs, rfl, hcp, hg⟩ := HR.out.end_
      have HG := Lib.hid (hg.less z1); clear hg
      have T3 : Hid (w.Since w.heap.size wr) := Lib.hid (T1.out.trans (HO.out.since (Nat.le_refl _)))
      go_wp2
      go_ret
      exact ⟨g, cp, zs, rfl, hcp, HG.out, T3.out⟩
/-- a number below m that a byte chooses -/
theorem r8At_any (A : Option Addr) (n c : Nat) (xs : List Int) (k m : Int) (w : World) (h : Bs w w.heap.size A n xs) (hk : 0 ≤ k) (hk2 : k ≤ 1000000000) :
    Calls Try.prog 5 #[.slice A n c, .int .i64 k, .int .i64 m] w fun e w' => ∃ v : Int, e = .returned (.int .i64 v) ∧ 0 ≤ v ∧ (1 ≤ m → v < m) ∧ w.Since w.heap.size w' := by
  have HH := Lib.hid h; clear h
  obtain ⟨j, rfl⟩ := Int.eq_ofNat_of_zero_le hk
  by_cases h1 : m ≤ 1
  · have hd : decide (m ≤ 1) = true := decide_eq_true h1
    go_enter Try.func5, Try.ntmps5
    go_wp2
    go_ret
    exact ⟨0, rfl, by omega, fun _ => by omega, by (repeat (first | (with_reducible refine Fl.sinDrew ?_) | (with_reducible refine World.Since.drew ?_) | (with_reducible refine Fl.sinSet ?_ ?_; rotate_left) | (with_reducible refine Fl.sinAlloc ?_ ?_; rotate_left) | with_reducible exact World.Since.refl _ _ | with_reducible assumption | (with_reducible refine Fl.sinStep (by with_reducible assumption) ?_))); all_goals (first | omega | (simp; done) | (simp; omega) | (simp [go_sem]; done) | (simp [go_sem]; omega))⟩
  · have hd : decide (m ≤ 1) = false := decide_eq_false h1
    by_cases h2 : (n : Int) ≤ (j : Int)
    · have hd2 : decide ((n : Int) ≤ (j : Int)) = true := decide_eq_true h2
      go_enter Try.func5, Try.ntmps5
      go_wp2
      go_ret
      exact ⟨0, rfl, by omega, fun _ => by omega, by (repeat (first | (with_reducible refine Fl.sinDrew ?_) | (with_reducible refine World.Since.drew ?_) | (with_reducible refine Fl.sinSet ?_ ?_; rotate_left) | (with_reducible refine Fl.sinAlloc ?_ ?_; rotate_left) | with_reducible exact World.Since.refl _ _ | with_reducible assumption | (with_reducible refine Fl.sinStep (by with_reducible assumption) ?_))); all_goals (first | omega | (simp; done) | (simp; omega) | (simp [go_sem]; done) | (simp [go_sem]; omega))⟩
    · have hd2 : decide ((n : Int) ≤ (j : Int)) = false := decide_eq_false h2
      obtain ⟨g, off, rfl, hg, hc⟩ := HH.out.2.2 (by omega)
      have hcell := hc j (by omega)
      have hv := HH.out.2.1 j
      have hz : m ≠ 0 := by omega
      clear hc
      go_enter Try.func5, Try.ntmps5
      go_wp2
      go_ret
      exact ⟨_, rfl, Int.emod_nonneg _ hz, fun _ => Int.emod_lt_of_pos _ (by omega), by (repeat (first | (with_reducible refine Fl.sinDrew ?_) | (with_reducible refine World.Since.drew ?_) | (with_reducible refine Fl.sinSet ?_ ?_; rotate_left) | (with_reducible refine Fl.sinAlloc ?_ ?_; rotate_left) | with_reducible exact World.Since.refl _ _ | with_reducible assumption | (with_reducible refine Fl.sinStep (by with_reducible assumption) ?_))); all_goals (first | omega | (simp; done) | (simp; omega) | (simp [go_sem]; done) | (simp [go_sem]; omega))⟩
theorem r8Long_any (A B : Option Addr) (n c m d : Nat) (b : Bool) (w : World) (h : (decide ((48 : Int) < n) || decide ((48 : Int) < m)) = b) :
    Calls Try.prog 4 #[.slice A n c, .slice B m d] w fun e w' => e = .returned (.bool b) ∧ w.Since w.heap.size w' := by
  subst h
  cases h1 : decide ((48 : Int) < n)
  all_goals
    go_enter Try.func4, Try.ntmps4
    go_wp2
    go_ret
    exact ⟨ret_bool (by simp), by (repeat (first | (with_reducible refine Fl.sinDrew ?_) | (with_reducible refine World.Since.drew ?_) | (with_reducible refine Fl.sinSet ?_ ?_; rotate_left) | (with_reducible refine Fl.sinAlloc ?_ ?_; rotate_left) | with_reducible exact World.Since.refl _ _ | with_reducible assumption | (with_reducible refine Fl.sinStep (by with_reducible assumption) ?_))); all_goals (first | omega | (simp; done) | (simp; omega) | (simp [go_sem]; done) | (simp [go_sem]; omega))⟩
end Go.Proofs.Ytipdgnhbmfmhnaa

/- A slice of integers that came in. -/
set_option linter.unusedVariables false
set_option linter.unusedSimpArgs false
namespace Go.Proofs.Ytipdgnhbmfmhnaa
namespace Fl
open Go.ChangeShapes Go.WideShapes Go.RowKit Go.WideMaps Go.WideElems
section
variable {H : Type} {enc : TypeId × Value → H} {P : Program}
theorem trod_in {w : World} {base : Nat} {spare : Nat → Bool} {held : Bool} {fuel : Nat} {t : TypeId} {k : IntKind} {cs : List Value} {x : DataW H × List MemPlace} (ht : P.underlying t = some (.int k))
    (h : DataW.trod enc P w base spare held fuel t cs = some x) : ∃ b, cs = [.int k b] ∧ (Lit.int k b).wf = true := by
  cases fuel with
  | zero => simp [DataW.trod] at h
  | succ n =>
    unfold DataW.trod at h
    rw [ht] at h
    split at h <;> simp_all
theorem open_is {W : World} {base b0 : Nat} {r : Reach} {t e : TypeId} {v : Value} {d : DataW H} {ps : List MemPlace} (ht : P.underlying t = some (.slice e)) (he : P.underlying e = some (.int .i64)) (hc : P.cellsOf e = 1)
    (hval : Value.okWide P W r b0 t v) (h : DataW.Trod enc P W base (fun _ => true) true t v d ps) :
    ∃ (A : Option Addr) (n c : Nat) (xs : List Int), v = .slice A n c ∧ (Is W W.heap.size A n xs ∧ ∀ k, k < n → (Lit.int .i64 (wi xs k)).wf = true) ∧ n ≤ 9223372036854775807 := by
  obtain ⟨A, n, c, rfl⟩ := okWide_slice ht hval
  obtain ⟨fuel, hf⟩ := h
  rcases Go.Deep.open_slice ht hf with ⟨hcs, _⟩ | ⟨a, len, cap, m, k, D, Pl, hcs, _, hl, hm, hmm, _, hi⟩
  · simp only [Value.cells, Array.toList] at hcs
    injection hcs with hcs _
    injection hcs with h1 h2 h3
    subst h1; subst h2; subst h3
    exact ⟨none, 0, 0, [], rfl, ⟨⟨rfl, (fun h => by omega)⟩, (fun k h => by omega)⟩, by omega⟩
  · simp only [Value.cells, Array.toList] at hcs
    injection hcs with hcs _
    injection hcs with h1 h2 h3
    subst h1; subst h2; subst h3
    rw [if_pos rfl] at hmm
    subst hmm
    have hcell : ∀ i, i < m → ∃ b : Int, W.cell? (a.add i) = some (.int .i64 b) ∧ (Lit.int .i64 b).wf = true := by
      intro i him
      obtain ⟨cs', hcs', htr⟩ := hi i him
      rw [hc, Nat.mul_one] at hcs'
      obtain ⟨_, hlen, hat⟩ := World.cells?_some hcs'
      obtain ⟨b, hb, hw⟩ := trod_in he htr
      have h0 := hat 0 (by omega)
      rw [hb] at h0
      refine ⟨b, ?_, hw⟩
      have e : (a.add i).add 0 = a.add i := by simp [Addr.add]
      rw [e] at h0
      exact h0
    let f : Nat → Int := fun i => if h : i < m then Classical.choose (hcell i h) else 0
    have hfs : ∀ i (h : i < m), W.cell? (a.add i) = some (.int .i64 (f i)) ∧ (Lit.int .i64 (f i)).wf = true := by
      intro i h
      have := Classical.choose_spec (hcell i h)
      simp only [f, dif_pos h]
      exact this
    refine ⟨some a, n, m, (List.range n).map f, rfl, ⟨⟨by simp, ?_⟩, ?_⟩, by unfold maxLen at hm; omega⟩
    · intro hn
      obtain ⟨g, off, spot⟩ := a
      have h0 := (hfs 0 (by omega)).1
      have hspot : spot = none := by simpa [Addr.add] using World.cell?_spot h0
      subst hspot
      refine ⟨g, off, rfl, ?_, fun k hk => ?_⟩
      · have h1 : W.cell? ⟨g, off, none⟩ = some (.int .i64 (f 0)) := by simpa [Addr.add] using h0
        rcases Nat.lt_or_ge g W.heap.size with h2 | h2
        · exact h2
        · simp [World.cell?, Array.getElem?_eq_none h2] at h1
      · have h1 := (hfs k (by omega)).1
        rw [Go.WideShapes.add_plain] at h1
        rw [h1]
        unfold iv wi
        simp [hk]
    · intro k hk
      have h1 := (hfs k (by omega)).2
      unfold wi
      simpa [hk] using h1
end
end Fl
end Go.Proofs.Ytipdgnhbmfmhnaa

/- Draws: lists that a law compares, and the bytes of a law. -/
set_option linter.unusedVariables false
set_option linter.unusedSimpArgs false
namespace Go.Proofs.Ytipdgnhbmfmhnaa
open Fl Go.RowKit
namespace Fl
open Go.ChangeShapes Go.WideShapes Go.RowKit Go.WideMaps Go.WideElems
section
variable {H : Type} {enc : TypeId × Value → H} {P : Program}
theorem open_bs {W : World} {base b0 : Nat} {r : Reach} {t e : TypeId} {v : Value} {d : DataW H} {ps : List MemPlace} (ht : P.underlying t = some (.slice e)) (he : P.underlying e = some (.int .u8)) (hc : P.cellsOf e = 1)
    (hval : Value.okWide P W r b0 t v) (h : DataW.Trod enc P W base (fun _ => true) true t v d ps) :
    ∃ (A : Option Addr) (n c : Nat) (xs : List Int), v = .slice A n c ∧ Bs W W.heap.size A n xs ∧ n ≤ 9223372036854775807 := by
  obtain ⟨A, n, c, rfl⟩ := okWide_slice ht hval
  obtain ⟨fuel, hf⟩ := h
  rcases Go.Deep.open_slice ht hf with ⟨hcs, _⟩ | ⟨a, len, cap, m, k, D, Pl, hcs, _, hl, hm, hmm, _, hi⟩
  · simp only [Value.cells, Array.toList] at hcs
    injection hcs with hcs _
    injection hcs with h1 h2 h3
    subst h1; subst h2; subst h3
    exact ⟨none, 0, 0, [], rfl, ⟨rfl, (fun k => by simp [wi]), (fun h => by omega)⟩, by omega⟩
  · simp only [Value.cells, Array.toList] at hcs
    injection hcs with hcs _
    injection hcs with h1 h2 h3
    subst h1; subst h2; subst h3
    rw [if_pos rfl] at hmm
    subst hmm
    have hcell : ∀ i, i < m → ∃ b : Int, W.cell? (a.add i) = some (.int .u8 b) ∧ (Lit.int .u8 b).wf = true := by
      intro i him
      obtain ⟨cs', hcs', htr⟩ := hi i him
      rw [hc, Nat.mul_one] at hcs'
      obtain ⟨_, hlen, hat⟩ := World.cells?_some hcs'
      obtain ⟨b, hb, hw⟩ := trod_in he htr
      have h0 := hat 0 (by omega)
      rw [hb] at h0
      refine ⟨b, ?_, hw⟩
      have e : (a.add i).add 0 = a.add i := by simp [Addr.add]
      rw [e] at h0
      exact h0
    let f : Nat → Int := fun i => if h : i < m then Classical.choose (hcell i h) else 0
    have hfs : ∀ i (h : i < m), W.cell? (a.add i) = some (.int .u8 (f i)) ∧ (Lit.int .u8 (f i)).wf = true := by
      intro i h
      have := Classical.choose_spec (hcell i h)
      simp only [f, dif_pos h]
      exact this
    have hw8 : ∀ i, 0 ≤ f i ∧ f i < 256 := by
      intro i
      by_cases h : i < m
      · have h1 := (hfs i h).2
        simp only [Lit.wf, Bool.and_eq_true, decide_eq_true_eq] at h1
        have e1 : IntKind.min .u8 = 0 := by kernel_rfl
        have e2 : IntKind.max .u8 = 255 := by kernel_rfl
        rw [e1, e2] at h1
        omega
      · simp [f, h]
    refine ⟨some a, n, m, (List.range n).map f, rfl, ⟨by simp, ?_, ?_⟩, by unfold maxLen at hm; omega⟩
    · intro k
      unfold wi
      by_cases hk : k < n
      · simpa [hk] using hw8 k
      · simp [hk]
    · intro hn
      obtain ⟨g, off, spot⟩ := a
      have h0 := (hfs 0 (by omega)).1
      have hspot : spot = none := by simpa [Addr.add] using World.cell?_spot h0
      subst hspot
      refine ⟨g, off, rfl, ?_, fun k hk => ?_⟩
      · have h1 : W.cell? ⟨g, off, none⟩ = some (.int .u8 (f 0)) := by simpa [Addr.add] using h0
        rcases Nat.lt_or_ge g W.heap.size with h2 | h2
        · exact h2
        · simp [World.cell?, Array.getElem?_eq_none h2] at h1
      · have h1 := (hfs k (by omega)).1
        rw [Go.WideShapes.add_plain] at h1
        rw [h1]
        unfold wi
        simp [hk]
end
end Fl
end Go.Proofs.Ytipdgnhbmfmhnaa

/- Draws: filters and memories of any numbers. -/
set_option linter.unusedVariables false
set_option linter.unusedSimpArgs false
namespace Go.Proofs.Ytipdgnhbmfmhnaa
open Fl Go.RowKit
/-- a filter's block -/
def FilB (T : TypeId) (w : World) (b : Nat) (f : FilN) : Prop := w.heap[b]? = some (.cells #[.float .f32 f.b0, .float .f32 f.b1, .float .f32 f.b2, .float .f32 f.a1, .float .f32 f.a2] T (0, 0))
section
variable {T : TypeId} {w w' : World} {b : Nat} {f : FilN}
theorem FilB.lt (h : FilB T w b f) : b < w.heap.size := (Array.getElem?_eq_some_iff.1 h).1
theorem FilB.c0 (h : FilB T w b f) : w.cell? ⟨b, 0, none⟩ = some (.float .f32 f.b0) := by unfold FilB at h; simp [World.cell?, h]
theorem FilB.c1 (h : FilB T w b f) : w.cell? ⟨b, 1, none⟩ = some (.float .f32 f.b1) := by unfold FilB at h; simp [World.cell?, h]
theorem FilB.c2 (h : FilB T w b f) : w.cell? ⟨b, 2, none⟩ = some (.float .f32 f.b2) := by unfold FilB at h; simp [World.cell?, h]
theorem FilB.c3 (h : FilB T w b f) : w.cell? ⟨b, 3, none⟩ = some (.float .f32 f.a1) := by unfold FilB at h; simp [World.cell?, h]
theorem FilB.c4 (h : FilB T w b f) : w.cell? ⟨b, 4, none⟩ = some (.float .f32 f.a2) := by unfold FilB at h; simp [World.cell?, h]
theorem FilB.free (h : FilB T w b f) (q : Nat) : w.frozen? ⟨b, q, none⟩ = false := by unfold FilB at h; simp [World.frozen?, h]
theorem FilB.of (h : FilB T w b f) (e : w'.heap[b]? = w.heap[b]?) : FilB T w' b f := e.trans h
theorem FilB.since {B : Nat} (h : FilB T w b f) (s : w.Since B w') (hb : b < B) : FilB T w' b f := h.of (s.block b hb)
theorem FilB.on {g : Nat} (h : FilB T w b f) (s : On g w w') (hb : b ≠ g) : FilB T w' b f := h.of (s.2 b h.lt hb)
theorem FilB.s1 (h : FilB T w b f) (x : Nat) : FilB T (w.setCell ⟨b, 1, none⟩ (.float .f32 x)) b ⟨f.b0, x, f.b2, f.a1, f.a2⟩ := by unfold FilB at h ⊢; simp [World.setCell, Array.getElem?_modify, h]
theorem FilB.s2 (h : FilB T w b f) (x : Nat) : FilB T (w.setCell ⟨b, 2, none⟩ (.float .f32 x)) b ⟨f.b0, f.b1, x, f.a1, f.a2⟩ := by unfold FilB at h ⊢; simp [World.setCell, Array.getElem?_modify, h]
theorem FilB.s3 (h : FilB T w b f) (x : Nat) : FilB T (w.setCell ⟨b, 3, none⟩ (.float .f32 x)) b ⟨f.b0, f.b1, f.b2, x, f.a2⟩ := by unfold FilB at h ⊢; simp [World.setCell, Array.getElem?_modify, h]
theorem FilB.s4 (h : FilB T w b f) (x : Nat) : FilB T (w.setCell ⟨b, 4, none⟩ (.float .f32 x)) b ⟨f.b0, f.b1, f.b2, f.a1, x⟩ := by unfold FilB at h ⊢; simp [World.setCell, Array.getElem?_modify, h]
theorem FilB.all (h : FilB T w b f) (x y z u v : Nat) : FilB T (((((w.setCell ⟨b, 0, none⟩ (.float .f32 x)).setCell ⟨b, 1, none⟩ (.float .f32 y)).setCell ⟨b, 2, none⟩ (.float .f32 z)).setCell ⟨b, 3, none⟩ (.float .f32 u)).setCell ⟨b, 4, none⟩ (.float .f32 v)) b ⟨x, y, z, u, v⟩ := by unfold FilB at h ⊢; simp [World.setCell, Array.getElem?_modify, h]
theorem FilB.new (T : TypeId) (w : World) (x y z u v : Nat) : FilB T (w.alloc (.cells #[.float .f32 x, .float .f32 y, .float .f32 z, .float .f32 u, .float .f32 v] T)) w.heap.size ⟨x, y, z, u, v⟩ := Go.Deep.blk_alloc_new _ _
theorem FilB.at_ (h : FilB T w b f) : FilAt w b f := ⟨h.lt, h.c0, h.c1, h.c2, h.c3, h.c4⟩
theorem FilB.row (h : FilB T w b f) : w.rangeAt b 0 [.float .f32 f.b0, .float .f32 f.b1, .float .f32 f.b2, .float .f32 f.a1, .float .f32 f.a2] := by
  intro j x hj
  rw [Nat.zero_add]
  unfold FilB at h
  simp only [World.cell?, h]
  simpa using hj
theorem MemB.row {m : MemN} (h : MemB T w b m) : w.rangeAt b 0 [.float .f32 m.a, .float .f32 m.b, .float .f32 m.c, .float .f32 m.d] := by
  intro j x hj
  rw [Nat.zero_add]
  unfold MemB at h
  simp only [World.cell?, h]
  simpa using hj
theorem MemB.on {g : Nat} {m : MemN} (h : MemB T w b m) (s : On g w w') (hb : b ≠ g) : MemB T w' b m := h.of (s.2 b h.lt hb)
theorem MemB.t1 {m : MemN} (h : MemB T w b m) (x : Nat) : MemB T (w.setCell ⟨b, 1, none⟩ (.float .f32 x)) b ⟨m.a, x, m.c, m.d⟩ := by unfold MemB at h ⊢; simp [World.setCell, Array.getElem?_modify, h]
theorem MemB.t2 {m : MemN} (h : MemB T w b m) (x : Nat) : MemB T (w.setCell ⟨b, 2, none⟩ (.float .f32 x)) b ⟨m.a, m.b, x, m.d⟩ := by unfold MemB at h ⊢; simp [World.setCell, Array.getElem?_modify, h]
theorem MemB.t3 {m : MemN} (h : MemB T w b m) (x : Nat) : MemB T (w.setCell ⟨b, 3, none⟩ (.float .f32 x)) b ⟨m.a, m.b, m.c, x⟩ := by unfold MemB at h ⊢; simp [World.setCell, Array.getElem?_modify, h]
end
/-- what a call that has a block of its own changes -/
theorem Fl.On.own {b g : Nat} {w a : World} (h : On b w a) (hg : w.heap.size ≤ g) (hb : b < w.heap.size) (o : Nat) (v : Value) : On b w (a.setCell ⟨g, o, none⟩ v) :=
  on_post h ((World.Since.refl _ _).setCell (Nat.le_refl _) _) hg hb
theorem Src.own {B b K g : Nat} {w : World} (h : Src B b K w) (hg : b < g) (o : Nat) (v : Value) : Src B b K (w.setCell ⟨g, o, none⟩ v) :=
  h.on ((World.Since.refl _ _).setCell (show b + 1 ≤ g by omega) _)
theorem off_own {g r o : Nat} {v : Value} {w : World} (h : r ≠ g) : (w.setCell ⟨g, o, none⟩ v).heap[r]? = w.heap[r]? := Go.Deep.blk_setCell_other _ _ _ _ h
/-- a filter, a memory that was drawn -/
def PFil (B b K : Nat) (w : World) (e : Ending) (w' : World) : Prop := ∃ (f : FilN) (F : Fil), e = .returned f.val ∧ FvF f F ∧ Src B b K w' ∧ On b w w'
def PMem (B b K : Nat) (w : World) (e : Ending) (w' : World) : Prop := ∃ (f : MemN) (F : Mem), e = .returned f.val ∧ FvM f F ∧ Src B b K w' ∧ On b w w'
def PFilW (w : World) (e : Ending) (w' : World) : Prop := ∃ (f : FilN) (F : Fil), e = .returned f.val ∧ FvF f F ∧ w.Since w.heap.size w'
def PMemW (w : World) (e : Ending) (w' : World) : Prop := ∃ (f : MemN) (F : Mem), e = .returned f.val ∧ FvM f F ∧ w.Since w.heap.size w'
end Go.Proofs.Ytipdgnhbmfmhnaa

/- Filters that come to rest: both sides. -/
set_option linter.unusedVariables false
set_option linter.unusedSimpArgs false
namespace Go.Proofs.Ytipdgnhbmfmhnaa
open Fl Go.RowKit
/-- whether all numbers of a memory are zeros -/
def stO (M : Mem) : Bool := eqO M.a (some 0) && eqO M.b (some 0) && eqO M.c (some 0) && eqO M.d (some 0)
/-- the memory behind so many samples +0 -/
def rstM (form : Nat) (F : Fil) (M : Mem) (k : Nat) : Mem := filM form true F M (fun _ => some 0) k
/-- what is told of the rest -/
def RestIs (form : Nat) (F : Fil) (M : Mem) (most : Nat) (z : Int) (b : Bool) : Prop :=
  (∃ k, k ≤ most ∧ (∀ j, j < k → stO (rstM form F M j) = false) ∧ stO (rstM form F M k) = true ∧ z = (k : Int) ∧ b = true) ∨ ((∀ j, j ≤ most → stO (rstM form F M j) = false) ∧ z = 0 ∧ b = false)
theorem rest_is (form : Nat) (F : Fil) (M : Mem) (most : Nat) : ∃ z b, RestIs form F M most z b := by
  have key : ∀ n : Nat, n ≤ most + 1 → (∃ k, k < n ∧ (∀ j, j < k → stO (rstM form F M j) = false) ∧ stO (rstM form F M k) = true) ∨ (∀ j, j < n → stO (rstM form F M j) = false) := by
    intro n
    induction n with
    | zero => exact fun _ => .inr fun j hj => absurd hj (Nat.not_lt_zero _)
    | succ n ih =>
      intro hn
      rcases ih (by omega) with ⟨k, h1, h2, h3⟩ | h
      · exact .inl ⟨k, by omega, h2, h3⟩
      · cases hs : stO (rstM form F M n)
        · exact .inr fun j hj => by
            by_cases e : j < n
            · exact h j e
            · obtain rfl : j = n := by omega
              exact hs
        · exact .inl ⟨n, by omega, h, hs⟩
  rcases key (most + 1) (Nat.le_refl _) with ⟨k, h1, h2, h3⟩ | h
  · exact ⟨k, true, .inl ⟨k, by omega, h2, h3, rfl, rfl⟩⟩
  · exact ⟨0, false, .inr ⟨fun j hj => h j (by omega), rfl, rfl⟩⟩
theorem rest_at {form : Nat} {F : Fil} {M : Mem} {most : Nat} {z : Int} {b : Bool} (h : RestIs form F M most z b) {k : Nat} (hk : k ≤ most) (hj : ∀ j, j < k → stO (rstM form F M j) = false) (hs : stO (rstM form F M k) = true) : z = (k : Int) ∧ b = true := by
  rcases h with ⟨q, h1, h2, h3, h4, h5⟩ | ⟨h1, _⟩
  · have : q = k := by
      rcases Nat.lt_trichotomy q k with h | h | h
      · rw [hj q h] at h3; cases h3
      · exact h
      · rw [h2 k h] at hs; cases hs
    subst this
    exact ⟨h4, h5⟩
  · rw [h1 k hk] at hs; cases hs
theorem rest_no {form : Nat} {F : Fil} {M : Mem} {most : Nat} {z : Int} {b : Bool} (h : RestIs form F M most z b) (hj : ∀ j, j ≤ most → stO (rstM form F M j) = false) : z = 0 ∧ b = false := by
  rcases h with ⟨q, h1, h2, h3, h4, h5⟩ | ⟨h1, h2, h3⟩
  · rw [hj q h1] at h3; cases h3
  · exact ⟨h2, h3⟩
theorem eqF_ (d : Nat) (a b : Nat) (w : World) : (Op.equalIn (d + 1) 24 (.float .f32 a) (.float .f32 b)).run Try.prog w = .ok (Op.floatEq .f32 a b) w := by
  rw [Op.equalIn]
  simp only [Sem.run_bind, run_underlying Try.underlying24, Result.andThen_ok]
  simp [Sem.run_pure]
theorem eq0 {q : Nat} {Q : O} (h : Hid (Fv .f32 q Q)) : Op.floatEq .f32 q 0 = eqO Q (some 0) := by
  rw [← eq_fv h fv0]; rfl
set_option maxHeartbeats 2000000 in
@[go_sem] theorem Try.eq4f (a b c d : Nat) (w : World) : (Op.equalIn 10000 48 (.agg #[.float .f32 a, .float .f32 b, .float .f32 c, .float .f32 d]) (.agg #[.float .f32 0, .float .f32 0, .float .f32 0, .float .f32 0])).run Try.prog w = .ok (Op.floatEq .f32 a 0 && Op.floatEq .f32 b 0 && Op.floatEq .f32 c 0 && Op.floatEq .f32 d 0) w := by
  have u3 := Try.underlying24
  have a3 := Try.isAgg24
  have z3 := Try.sizeOf24
  rw [show (10000 : Nat) = 9999 + 1 from rfl, Op.equalIn]
  simp only [Sem.run_bind, run_underlying Try.underlying48, Result.andThen_ok]
  simp only [Std.Legacy.Range.forIn_eq_forIn_range', Std.Legacy.Range.size, Nat.sub_zero, Nat.add_sub_cancel, Nat.div_one, List.range'_succ, List.range'_zero, List.forIn_cons, List.forIn_nil]
  have e := fun x y W => eqF_ 9998 x y W
  go_simp
  cases Op.floatEq .f32 a 0 <;> cases Op.floatEq .f32 b 0 <;> cases Op.floatEq .f32 c 0 <;> cases Op.floatEq .f32 d 0 <;> simp
theorem still_iff {M : Mem} {k : Nat} {form : Nat} {F : Fil} {N : Mem} (h : M = rstM form F N k) : stO M = stO (rstM form F N k) := by rw [h]
set_option maxHeartbeats 8000000 in
set_option maxRecDepth 100000 in
theorem implRest_ok (form : Nat) (hform : form ≤ 2) (f : FilN) (m : MemN) (F : Fil) (M : Mem) (most : Nat) (z : Int) (b : Bool) (w : World) (hF : FvF f F) (hM : FvM m M) (hmost : most ≤ 10000) (hr : RestIs form F M most z b) :
    Calls Try.prog 8 #[f.val, .int .i64 (form : Int), m.val, .int .i64 (most : Int)] w fun e w' => e = .returned (.tuple #[.int .i64 z, .bool b]) ∧ w.Since w.heap.size w' := by
  obtain ⟨kk, hkk, hso⟩ := stepOf_any form hform
  have HSO := Lib.hid hso; clear hso
  have d1 : decide ((most : Int) < 0) = false := decide_eq_false (by omega)
  have d2 : decide ((10000 : Int) < (most : Int)) = false := decide_eq_false (by omega)
  have d3 : decide (10000 < most) = false := decide_eq_false (by omega)
  have HT := Lib.hid fun (m : MemN) (M : Mem) (v : World) (hM : FvM m M) => next_step hkk true f m 0 F M (some 0) v hF hM fv0
  have HR := Lib.hid hr
  have HCO := Lib.hid (cellsOf_any m)
  clear hr
  obtain ⟨b0, b1, b2, a1, a2⟩ := f
  obtain ⟨ma, mb, mc, md⟩ := m
  unfold MemN.val at *
  unfold setV at HT
  unfold FilN.val
  go_enter Try.func8, Try.ntmps8
  go_wp2_with fail
  generalize hW1 : World.alloc w _ = W1
  generalize hW2 : World.alloc W1 _ = W2
  have z1 : W1.heap.size = w.heap.size + 1 := by rw [← hW1]; simp
  have z2 : W2.heap.size = w.heap.size + 1 + 1 := by rw [← hW2]; simp [z1]
  have FA : FilB 31 W1 w.heap.size ⟨b0, b1, b2, a1, a2⟩ := by rw [← hW1]; exact FilB.new _ _ _ _ _ _ _
  have b1_ : MemB 29 W2 (w.heap.size + 1) ⟨ma, mb, mc, md⟩ := by rw [← hW2, ← z1]; exact MemB.new _ _ _ _ _ _
  have s1 : w.Since w.heap.size W1 := by rw [← hW1]; exact (World.Since.refl _ _).alloc (Nat.le_refl _) _
  have s2 : W1.Since W1.heap.size W2 := by rw [← hW2]; exact (World.Since.refl _ _).alloc (Nat.le_refl _) _
  have F2 := Lib.hid (FA.since s2 (by omega))
  have B2 := Lib.hid b1_
  have S2 : Hid (w.Since w.heap.size W2) := Lib.hid (s1.trans (since_mono s2 (by omega)))
  clear hW1 hW2 s1 s2 b1_ FA z1
  have Z2 := Lib.hid z2; clear z2
  go_step3
  go_wp2_with (first | (go_at_call 13; refine (HSO.out _).mono ?_; rintro e w' ⟨rfl, rfl⟩))
  refine Lk.wp_k (by kernel_rfl) (by kernel_rfl) (by kernel_rfl) ?_
  repeat (first
    | (refine Lk.sRow rfl rfl rfl rfl 31 _ rfl (w.heap.size) 0 rfl [.float .f32 b0, .float .f32 b1, .float .f32 b2, .float .f32 a1, .float .f32 a2] _ Try.underlying31 rfl (by kernel_rfl) (fun v hv => Lo.range_since F2.out.row hv F2.out.lt) ?_; (try simp only [Act.eval, Act.put, Lk.Va.val, Lk.Va.kd, List.setIfInBounds_toArray, List.set_cons_succ, List.set_cons_zero, Array.getD_eq_getD_getElem?, List.getElem?_toArray, List.getElem?_cons_succ, List.getElem?_cons_zero, Option.getD_some]))
    | (refine Lk.sRow rfl rfl rfl rfl 29 _ rfl (w.heap.size + 1) 0 rfl [.float .f32 ma, .float .f32 mb, .float .f32 mc, .float .f32 md] _ Try.underlying29 rfl (by kernel_rfl) (fun v hv => Lo.range_since B2.out.row hv B2.out.lt) ?_; (try simp only [Act.eval, Act.put, Lk.Va.val, Lk.Va.kd, List.setIfInBounds_toArray, List.set_cons_succ, List.set_cons_zero, Array.getD_eq_getD_getElem?, List.getElem?_toArray, List.getElem?_cons_succ, List.getElem?_cons_zero, Option.getD_some]))
    | (refine Lk.sCallV rfl rfl rfl 14 [.tmp _] _ rfl (callsEnter 14 Try.f14 _ (by kernel_rfl) (by kernel_rfl) rfl) rfl [.agg #[.float .f32 ma, .float .f32 mb, .float .f32 mc, .float .f32 md]] rfl (.agg #[.float .f32 ma, .float .f32 mb, .float .f32 mc, .float .f32 md]) (fun v _ _ => HCO.out v) ?_; (try simp only [Act.eval, Act.put, Lk.Va.val, Lk.Va.kd, List.setIfInBounds_toArray, List.set_cons_succ, List.set_cons_zero, Array.getD_eq_getD_getElem?, List.getElem?_toArray, List.getElem?_cons_succ, List.getElem?_cons_zero, Option.getD_some]))
    | (refine Lk.sAlloc rfl rfl (of_decide_eq_true rfl) 46 rfl 46 [.float .f32 0, .float .f32 0, .float .f32 0, .float .f32 0, .float .f32 0, .bool false] (fun v => by go_simp) ?_; (try simp only [Act.eval, Act.put, Lk.Va.val, Lk.Va.kd, List.setIfInBounds_toArray, List.set_cons_succ, List.set_cons_zero, Array.getD_eq_getD_getElem?, List.getElem?_toArray, List.getElem?_cons_succ, List.getElem?_cons_zero, Option.getD_some]))
    | (refine Lk.sAlloc rfl rfl (of_decide_eq_true rfl) 48 rfl 48 [.float .f32 0, .float .f32 0, .float .f32 0, .float .f32 0] (fun v => by go_simp) ?_; (try simp only [Act.eval, Act.put, Lk.Va.val, Lk.Va.kd, List.setIfInBounds_toArray, List.set_cons_succ, List.set_cons_zero, Array.getD_eq_getD_getElem?, List.getElem?_toArray, List.getElem?_cons_succ, List.getElem?_cons_zero, Option.getD_some]))
    | (refine Lk.sStore rfl 46 12 (.tmp 31) rfl rfl 46 (· = _) rfl 6 (fun cs h => by rw [h]; rfl) (by kernel_rfl) rfl [.float .f32 b0, .float .f32 b1, .float .f32 b2, .float .f32 a1, .float .f32 a2, .bool true] rfl (by intro h; cases h) rfl (by simp [Value.oneCell']) ?_; (try simp only [Act.eval, Act.put, Lk.Va.val, Lk.Va.kd, List.setIfInBounds_toArray, List.set_cons_succ, List.set_cons_zero, Array.getD_eq_getD_getElem?, List.getElem?_toArray, List.getElem?_cons_succ, List.getElem?_cons_zero, Option.getD_some]))
    | (refine Lk.sStore rfl 48 13 (.tmp 33) rfl rfl 48 (· = _) rfl 4 (fun cs h => by rw [h]; rfl) (by kernel_rfl) rfl [.float .f32 ma, .float .f32 mb, .float .f32 mc, .float .f32 md] rfl (by intro h; cases h) rfl (by simp [Value.oneCell']) ?_; (try simp only [Act.eval, Act.put, Lk.Va.val, Lk.Va.kd, List.setIfInBounds_toArray, List.set_cons_succ, List.set_cons_zero, Array.getD_eq_getD_getElem?, List.getElem?_toArray, List.getElem?_cons_succ, List.getElem?_cons_zero, Option.getD_some]))
    | (refine Lk.sMove rfl rfl rfl rfl _ (.inl rfl) ?_; simp only [Act.eval, Act.put, Lk.Va.val, Lk.Va.kd, List.setIfInBounds_toArray, List.set_cons_succ, List.set_cons_zero, Array.getD_eq_getD_getElem?, List.getElem?_toArray, List.getElem?_cons_succ, List.getElem?_cons_zero, Option.getD_some])
    | (refine Lk.sMove rfl rfl rfl rfl _ (.inr rfl) ?_; simp only [Act.eval, Act.put, Lk.Va.val, Lk.Va.kd, List.setIfInBounds_toArray, List.set_cons_succ, List.set_cons_zero, Array.getD_eq_getD_getElem?, List.getElem?_toArray, List.getElem?_cons_succ, List.getElem?_cons_zero, Option.getD_some])
    | (refine Lk.sCopy rfl rfl (of_decide_eq_true rfl) _ (.inl rfl) _ rfl rfl ?_; simp only [Act.eval, Act.put, Lk.Va.val, Lk.Va.kd, List.setIfInBounds_toArray, List.set_cons_succ, List.set_cons_zero, Array.getD_eq_getD_getElem?, List.getElem?_toArray, List.getElem?_cons_succ, List.getElem?_cons_zero, Option.getD_some])
    | (refine Lk.sCopy rfl rfl (of_decide_eq_true rfl) _ (.inr rfl) _ rfl rfl ?_; simp only [Act.eval, Act.put, Lk.Va.val, Lk.Va.kd, List.setIfInBounds_toArray, List.set_cons_succ, List.set_cons_zero, Array.getD_eq_getD_getElem?, List.getElem?_toArray, List.getElem?_cons_succ, List.getElem?_cons_zero, Option.getD_some])
    | (refine Lk.sQuiet rfl rfl rfl rfl rfl (fun K hK => ?_); go_big_quiet_op; first | (with_reducible refine ⟨_, fun _ _ => rfl, hK _ ?_⟩; clear hK K) | (refine hK _ ?_; clear hK K)))
  refine Lk.wpK_nil ?_
  refine Lk.After.apart 13 12 _ _ rfl rfl rfl (by decide) ?_
  refine Lk.After.slot 12 _ rfl ?_; intro u12 _; simp only [Act.eval, Act.put, Lk.Va.val, Lk.Va.kd, List.setIfInBounds_toArray, List.set_cons_succ, List.set_cons_zero, Array.getD_eq_getD_getElem?, List.getElem?_toArray, List.getElem?_cons_succ, List.getElem?_cons_zero, Option.getD_some]
  refine Lk.After.slot 13 _ rfl ?_; intro u13 _; simp only [Act.eval, Act.put, Lk.Va.val, Lk.Va.kd, List.setIfInBounds_toArray, List.set_cons_succ, List.set_cons_zero, Array.getD_eq_getD_getElem?, List.getElem?_toArray, List.getElem?_cons_succ, List.getElem?_cons_zero, Option.getD_some]
  refine Lk.After.end_ [12, 13] (by repeat (first | exact Lk.nbut.start | refine Lk.nbut.upd (by simp) ?_)) rfl ?_
  intro fpK wK hwK
  intro hK13 hB13 hX13
  intro hK12 hB12 hX12
  intro hA13_12
  obtain ⟨bs, cs, rfl, rfl, hSs, hGs⟩ := Lk.box_ge hK12 hB12 (hX12 rfl)
  obtain ⟨bc, cc, rfl, rfl, hSc, hGc⟩ := Lk.box_ge hK13 hB13 (hX13 rfl)
  have S3 := Lib.hid (since_step S2.out hwK)
  have hne : Hid (bc ≠ bs) := Lib.hid fun e => hA13_12 bc ((hSc bc).2 rfl) ((hSs bc).2 e)
  have BS : Hid (wK.heap[bs]? = some (.cells #[.float .f32 b0, .float .f32 b1, .float .f32 b2, .float .f32 a1, .float .f32 a2, .bool true] 46 (0, 0))) := Lib.hid hGs.1
  have BC : Hid (MemB 48 wK bc ⟨ma, mb, mc, md⟩) := Lib.hid hGc.1
  have LS : Hid (w.heap.size ≤ bs ∧ bs < wK.heap.size) := Lib.hid ⟨Nat.le_trans S2.out.size (hX12 rfl bs ((hSs bs).2 rfl)), (hGs.2.2 bs rfl).2⟩
  have LC : Hid (w.heap.size ≤ bc) := Lib.hid (Nat.le_trans S2.out.size (hX13 rfl bc ((hSc bc).2 rfl)))
  clear hK12 hB12 hX12 hK13 hB13 hX13 hSs hGs hSc hGc hA13_12 hwK F2 B2 S2 Z2 HCO HSO
  clear fpK
  go_wp2_with fail
  go_step3
  go_wp2_with fail
  go_loopw [14] (fun i wr => ∃ (k : Nat) (q : MemN), k ≤ most ∧ i = .int .i64 (k : Int) ∧ wr.heap[bs]? = some (.cells #[.float .f32 b0, .float .f32 b1, .float .f32 b2, .float .f32 a1, .float .f32 a2, .bool true] 46 (0, 0)) ∧ bs < wr.heap.size ∧ MemB 48 wr bc q ∧ FvM q (rstM form F M k) ∧ (∀ j, j < k → stO (rstM form F M j) = false) ∧ w.Since w.heap.size wr) (fun i _ => most - (intOf i).toNat)
  case atStart => exact ⟨0, _, Nat.zero_le _, rfl, BS.out, LS.out.2, BC.out, hM, (fun j hj => absurd hj (Nat.not_lt_zero _)), S3.out⟩
  case round =>
    obtain ⟨k, ⟨qa, qb, qc, qd⟩, hk, rfl, hb0, hlt0, hb, hq, hno, hs⟩ := hrel
    have HB0 := Lib.hid hb0; have HB := Lib.hid hb; have HQ := Lib.hid hq; have HN := Lib.hid hno; have HS := Lib.hid hs
    have hlt := hb.lt
    clear hb0 hb hq hno hs
    have m0 := HB.out.c0; have m1 := HB.out.c1; have m2 := HB.out.c2; have m3 := HB.out.c3
    have x0 := eq0 HQ.out.a; have x1 := eq0 HQ.out.b; have x2 := eq0 HQ.out.c; have x3 := eq0 HQ.out.d
    simp only at x0 x1 x2 x3
    have hall : (Op.floatEq .f32 qa 0 && Op.floatEq .f32 qb 0 && Op.floatEq .f32 qc 0 && Op.floatEq .f32 qd 0) = stO (rstM form F M k) := by rw [x0, x1, x2, x3]; rfl
    clear x0 x1 x2 x3
    cases hst : stO (rstM form F M k)
    · rw [hst] at hall
      have HK := Lib.hid hst
      clear hst
      by_cases hkm : k = most
      · obtain ⟨rfl, rfl⟩ := rest_no HR.out fun j hj => by
          by_cases e : j < k
          · exact HN.out j e
          · obtain rfl : j = k := by omega
            exact HK.out
        subst hkm
        go_wp2_with fail
        go_ret2
        exact ⟨rfl, HS.out⟩
      · have hd : decide ((k : Int) = (most : Int)) = false := decide_eq_false (by omega)
        have hne2 : ¬ ((k : Int) = (most : Int)) := by omega
        have k0 : wr.cell? ⟨bs, 0, none⟩ = some (.float .f32 b0) := by have := HB0.out; simp [World.cell?, this]
        have k1 : wr.cell? ⟨bs, 1, none⟩ = some (.float .f32 b1) := by have := HB0.out; simp [World.cell?, this]
        have k2 : wr.cell? ⟨bs, 2, none⟩ = some (.float .f32 b2) := by have := HB0.out; simp [World.cell?, this]
        have k3 : wr.cell? ⟨bs, 3, none⟩ = some (.float .f32 a1) := by have := HB0.out; simp [World.cell?, this]
        have k4 : wr.cell? ⟨bs, 4, none⟩ = some (.float .f32 a2) := by have := HB0.out; simp [World.cell?, this]
        have k5 : wr.cell? ⟨bs, 5, none⟩ = some (.bool true) := by have := HB0.out; simp [World.cell?, this]
        go_wp2_with fail
        refine (HT.out ⟨qa, qb, qc, qd⟩ _ wr HQ.out).mono ?_
        rintro e w4 ⟨y, ⟨ra, rb, rc, rd⟩, rfl, hy, hm, hs⟩
        have S4 := Lib.hid (since_step HS.out hs); have B4 := Lib.hid (HB.out.since hs hlt)
        have B0 := Lib.hid ((hs.block bs hlt0).trans HB0.out)
        have hlt4 : bs < w4.heap.size := by have := hs.size; omega
        have HM4 : Hid (FvM ⟨ra, rb, rc, rd⟩ (rstM form F M (k + 1))) := Lib.hid hm
        clear hs hm hy m0 m1 m2 m3 k0 k1 k2 k3 k4 k5
        have l0 := B4.out.free 0; have l1 := B4.out.free 1; have l2 := B4.out.free 2; have l3 := B4.out.free 3
        have c0 := B4.out.c0; have c1 := B4.out.c1; have c2 := B4.out.c2; have c3 := B4.out.c3
        have OO : Hid (On bc w4 ((((w4.setCell ⟨bc, 0, none⟩ (.float .f32 ra)).setCell ⟨bc, 1, none⟩ (.float .f32 rb)).setCell ⟨bc, 2, none⟩ (.float .f32 rc)).setCell ⟨bc, 3, none⟩ (.float .f32 rd))) := Lib.hid (((((On.refl _ _).set _ _).set _ _).set _ _).set _ _)
        have NB := Lib.hid (B4.out.set ra rb rc rd)
        simp only [MemN.val_mk]
        go_wp2_with fail
        go_roundw
        case rel => exact ⟨k + 1, ⟨ra, rb, rc, rd⟩, by omega, by go_num, (OO.out.2 bs hlt4 (fun e => hne.out e.symm)).trans B0.out, by have := OO.out.1.size; omega, NB.out, HM4.out, (fun j hj => by
          by_cases e : j < k
          · exact HN.out j e
          · obtain rfl : j = k := by omega
            exact HK.out), S4.out.trans (since_mono OO.out.1 LC.out)⟩
        case measure => simp [intOf]; omega
    · rw [hst] at hall
      obtain ⟨rfl, rfl⟩ := rest_at HR.out hk HN.out hst
      clear hst
      go_wp2_with fail
      go_ret2
      exact ⟨rfl, HS.out⟩
theorem implRest_no (f : FilN) (form : Int) (m : MemN) (most : Int) (w : World) (h : ¬ (inB form 0 2 = true ∧ inB most 0 10000 = true)) :
    Calls Try.prog 8 #[f.val, .int .i64 form, m.val, .int .i64 most] w fun e w' => e = .returned (.tuple #[.int .i64 0, .bool false]) ∧ w.Since w.heap.size w' := by
  obtain ⟨b0, b1, b2, a1, a2⟩ := f
  obtain ⟨ma, mb, mc, md⟩ := m
  unfold FilN.val MemN.val
  cases h1 : inB form 0 2
  · go_enter Try.func8, Try.ntmps8
    go_wp2_with fail
    go_step3
    go_wp2_with (go_at_call 13; refine (stepOf_out _ _ h1).mono ?_; rintro e w' ⟨rfl, rfl⟩)
    rw [Exit.noGoto_ret]
    go_ret2
    exact ⟨rfl, by (repeat (first | (with_reducible refine Fl.sinDrew ?_) | (with_reducible refine World.Since.drew ?_) | (with_reducible refine Fl.sinSet ?_ ?_; rotate_left) | (with_reducible refine Fl.sinAlloc ?_ ?_; rotate_left) | with_reducible exact World.Since.refl _ _ | with_reducible assumption | (with_reducible refine Fl.sinStep (by with_reducible assumption) ?_))); all_goals (first | omega | (simp; done) | (simp; omega) | (simp [go_sem]; done) | (simp [go_sem]; omega))⟩
  · have h2 : ¬ (0 ≤ most ∧ most ≤ 10000) := fun h3 => h ⟨h1, by simp only [inB, Bool.and_eq_true, decide_eq_true_eq]; exact h3⟩
    clear h
    simp only [inB, Bool.and_eq_true, decide_eq_true_eq] at h1
    obtain ⟨form, rfl⟩ := Int.eq_ofNat_of_zero_le h1.1
    obtain ⟨kk, _, hso⟩ := stepOf_any form (by omega)
    have HSO := Lib.hid hso; clear hso
    by_cases h3 : most < 0
    · have d1 : decide (most < 0) = true := decide_eq_true h3
      go_enter Try.func8, Try.ntmps8
      go_wp2_with fail
      go_step3
      go_wp2_with (go_at_call 13; refine (HSO.out _).mono ?_; rintro e w' ⟨rfl, rfl⟩)
      rw [Exit.noGoto_ret]
      go_ret2
      exact ⟨rfl, by (repeat (first | (with_reducible refine Fl.sinDrew ?_) | (with_reducible refine World.Since.drew ?_) | (with_reducible refine Fl.sinSet ?_ ?_; rotate_left) | (with_reducible refine Fl.sinAlloc ?_ ?_; rotate_left) | with_reducible exact World.Since.refl _ _ | with_reducible assumption | (with_reducible refine Fl.sinStep (by with_reducible assumption) ?_))); all_goals (first | omega | (simp; done) | (simp; omega) | (simp [go_sem]; done) | (simp [go_sem]; omega))⟩
    · have d1 : decide (most < 0) = false := decide_eq_false h3
      have d2 : decide (10000 < most) = true := decide_eq_true (by omega)
      go_enter Try.func8, Try.ntmps8
      go_wp2_with fail
      go_step3
      go_wp2_with (go_at_call 13; refine (HSO.out _).mono ?_; rintro e w' ⟨rfl, rfl⟩)
      rw [Exit.noGoto_ret]
      go_ret2
      exact ⟨rfl, by (repeat (first | (with_reducible refine Fl.sinDrew ?_) | (with_reducible refine World.Since.drew ?_) | (with_reducible refine Fl.sinSet ?_ ?_; rotate_left) | (with_reducible refine Fl.sinAlloc ?_ ?_; rotate_left) | with_reducible exact World.Since.refl _ _ | with_reducible assumption | (with_reducible refine Fl.sinStep (by with_reducible assumption) ?_))); all_goals (first | omega | (simp; done) | (simp; omega) | (simp [go_sem]; done) | (simp [go_sem]; omega))⟩
end Go.Proofs.Ytipdgnhbmfmhnaa

/- Floats that are whole multiples of a power of two: sums, differences, products and comparisons of them are exact. -/
set_option linter.unusedVariables false
set_option linter.unusedSimpArgs false
namespace Go.Proofs.Ytipdgnhbmfmhnaa
namespace Fl
open Ieee
/-- a finite word's number, in units of the least place -/
def sv (k : FloatKind) (b : Nat) : Int := sg (sgn k b) (zv k (rung k b))
theorem sv_abs (k : FloatKind) (b : Nat) : (sv k b).natAbs = zv k (rung k b) := by unfold sv sg; split <;> omega
theorem sg_xor (s t : Bool) (a b : Nat) : sg (s ^^ t) (a * b) = sg s a * sg t b := by
  cases s <;> cases t <;> simp [sg, Int.neg_mul, Int.mul_neg]
/-- rounding leaves a number that the format has -/
theorem nearest_exact (k : FloatKind) (neg : Bool) {mag r : Nat} {place b : Int} (hr : r < k.format.infRung) (hb : b ≤ place) (hbl : b ≤ k.format.leastPlace)
    (h : mag * 2 ^ (place - b).toNat = zv k r * 2 ^ (k.format.leastPlace - b).toNat) : rung k (k.format.nearest neg mag place) = r := by
  obtain ⟨m, e, hz, hform, hlt⟩ := rung_form k r
  have hN := nearest_rung k neg hr hz hform
  have he : (k.format.leastPlace + (e : Int) - b).toNat = e + (k.format.leastPlace - b).toNat := by omega
  have h2 : mag * 2 ^ (place - b).toNat = m * 2 ^ (k.format.leastPlace + (e : Int) - b).toNat := by
    rw [h, hz, he, Nat.pow_add, Nat.mul_assoc]
  have h3 := nearest_mono k neg neg (mag := mag) (mag' := m) (place := place) (place' := k.format.leastPlace + (e : Int)) (b := b) hb (by omega) hbl (Nat.le_of_eq h2)
  have h4 := nearest_mono k neg neg (mag := m) (mag' := mag) (place := k.format.leastPlace + (e : Int)) (place' := place) (b := b) (by omega) hb hbl (Nat.le_of_eq h2.symm)
  rw [hN] at h3 h4
  omega
theorem sv_nearest (k : FloatKind) (neg : Bool) {mag r : Nat} {place : Int} (h : rung k (k.format.nearest neg mag place) = r) : sv k (k.format.nearest neg mag place) = sg neg (zv k r) := by
  unfold sv
  rw [sgn_nearest, h]
theorem sum_scaled (s t : Bool) (m n e f c : Nat) (h1 : c ≤ e) (h2 : c ≤ f) : (signed s m (e - c) + signed t n (f - c)) * (2 ^ c : Nat) = sg s (m * 2 ^ e) + sg t (n * 2 ^ f) := by
  have sgd : ∀ (s : Bool) (a u : Nat), signed s a u = sg s (a * 2 ^ u) := by intro s a u; simp only [signed, sg, Nat.shiftLeft_eq]
  rw [sgd, sgd, Int.add_mul, ← sg_mul, ← sg_mul, Nat.mul_assoc, Nat.mul_assoc, ← Nat.pow_add, ← Nat.pow_add, Nat.sub_add_cancel h1, Nat.sub_add_cancel h2]
/-- A SUM THAT THE FORMAT HAS -/
theorem add_exact (k : FloatKind) {x y r : Nat} (hx : Fin k x) (hy : Fin k y) (hr : r < k.format.infRung) (h : (sv k x + sv k y).natAbs = zv k r) :
    ∃ z, floatBits .add k x y = some z ∧ Fin k z ∧ sv k z = sv k x + sv k y := by
  obtain ⟨m, e, hm, hz⟩ := read_fin k hx
  obtain ⟨n, f, hn, hz2⟩ := read_fin k hy
  simp only [floatBits, Format.add, hm, hn, Datum.sum, Option.map_some]
  refine ⟨_, rfl, ?_⟩
  have e2 : min (k.format.leastPlace + (e : Int)) (k.format.leastPlace + (f : Int)) = k.format.leastPlace + ((min e f : Nat) : Int) := by omega
  rw [e2]
  have e3 : (k.format.leastPlace + (e : Int) - (k.format.leastPlace + ((min e f : Nat) : Int))).toNat = e - min e f := by omega
  have e4 : (k.format.leastPlace + (f : Int) - (k.format.leastPlace + ((min e f : Nat) : Int))).toNat = f - min e f := by omega
  rw [e3, e4]
  have hS := sum_scaled (sgn k x) (sgn k y) m n e f (min e f) (Nat.min_le_left ..) (Nat.min_le_right ..)
  rw [← hz, ← hz2] at hS
  change _ = sv k x + sv k y at hS
  generalize signed (sgn k x) m (e - min e f) + signed (sgn k y) n (f - min e f) = T at *
  generalize min e f = c at *
  have hpos : 0 < 2 ^ c := Nat.two_pow_pos c
  have hab : T.natAbs * 2 ^ c = zv k r := by rw [← h, ← hS, Int.natAbs_mul, Int.natAbs_natCast]
  have hrung := nearest_exact k (if T = 0 then sgn k x && sgn k y else decide (T < 0)) (mag := T.natAbs) (r := r) (place := k.format.leastPlace + (c : Int)) (b := k.format.leastPlace) hr (by omega) (Int.le_refl _) (by
    rw [show (k.format.leastPlace + (c : Int) - k.format.leastPlace).toNat = c by omega, show (k.format.leastPlace - k.format.leastPlace).toNat = 0 by omega, Nat.pow_zero, Nat.mul_one]; exact hab)
  show Fin k (k.format.nearest _ _ _) ∧ sv k (k.format.nearest _ _ _) = _
  refine ⟨by unfold Fin; rw [hrung]; exact hr, ?_⟩
  rw [sv_nearest k _ hrung, ← hS, ← hab]
  by_cases h0 : T = 0
  · subst h0
    rw [if_pos rfl]
    cases sgn k x && sgn k y <;> simp [sg]
  · rw [if_neg h0]
    by_cases h1 : T < 0
    · rw [decide_eq_true h1]
      simp only [sg, if_true]
      rw [Int.natCast_mul, ← Int.neg_mul]
      congr 1; omega
    · rw [decide_eq_false h1]
      simp only [sg, Bool.false_eq_true, if_false]
      rw [Int.natCast_mul]
      congr 1; omega
/-- A PRODUCT THAT THE FORMAT HAS (P: the least place) -/
theorem mul_exact (k : FloatKind) {x y r : Nat} (hx : Fin k x) (hy : Fin k y) (hr : r < k.format.infRung) (P : Nat) (hP : (P : Int) = -k.format.leastPlace) (h : (sv k x * sv k y).natAbs = zv k r * 2 ^ P) :
    ∃ z, floatBits .mul k x y = some z ∧ Fin k z ∧ sv k z * ((2 ^ P : Nat) : Int) = sv k x * sv k y := by
  obtain ⟨m, e, hm, hz⟩ := read_fin k hx
  obtain ⟨n, f, hn, hz2⟩ := read_fin k hy
  simp only [floatBits, Format.mul, hm, hn, Datum.product, Option.map_some]
  refine ⟨_, rfl, ?_⟩
  have hprod : (m * n) * 2 ^ (e + f) = zv k r * 2 ^ P := by
    rw [← h, Int.natAbs_mul, sv_abs, sv_abs, hz, hz2, Nat.pow_add]; ac_rfl
  have hrung := nearest_exact k (sgn k x ^^ sgn k y) (mag := m * n) (r := r) (place := k.format.leastPlace + (e : Int) + (k.format.leastPlace + (f : Int))) (b := k.format.leastPlace + k.format.leastPlace) hr (by omega) (by omega) (by
    rw [show (k.format.leastPlace + (e : Int) + (k.format.leastPlace + (f : Int)) - (k.format.leastPlace + k.format.leastPlace)).toNat = e + f by omega, show (k.format.leastPlace - (k.format.leastPlace + k.format.leastPlace)).toNat = P by omega]; exact hprod)
  show Fin k (k.format.nearest _ _ _) ∧ sv k (k.format.nearest _ _ _) * _ = _
  refine ⟨by unfold Fin; rw [hrung]; exact hr, ?_⟩
  rw [sv_nearest k _ hrung, ← sg_mul, ← hprod]
  unfold sv
  rw [← sg_xor, hz, hz2]
  congr 1
  rw [Nat.pow_add]; ac_rfl
theorem opp_neg (k : FloatKind) {y : Nat} (hy : Fin k y) (hl : y < 2 ^ k.format.width) : ∃ n e s, k.format.read y = .number s n e := by
  obtain ⟨n, f, hn, hz2⟩ := read_fin k hy
  exact ⟨_, _, _, hn⟩
/-- A DIFFERENCE THAT THE FORMAT HAS -/
theorem sub_exact (k : FloatKind) {x y r : Nat} (hx : Fin k x) (hy : Fin k y) (hr : r < k.format.infRung) (h : (sv k x - sv k y).natAbs = zv k r) :
    ∃ z, floatBits .sub k x y = some z ∧ Fin k z ∧ sv k z = sv k x - sv k y := by
  obtain ⟨m, e, hm, hz⟩ := read_fin k hx
  obtain ⟨n, f, hn, hz2⟩ := read_fin k hy
  simp only [floatBits, Format.sub, hm, hn, Datum.opposite, Datum.sum, Option.map_some]
  refine ⟨_, rfl, ?_⟩
  have e2 : min (k.format.leastPlace + (e : Int)) (k.format.leastPlace + (f : Int)) = k.format.leastPlace + ((min e f : Nat) : Int) := by omega
  rw [e2]
  have e3 : (k.format.leastPlace + (e : Int) - (k.format.leastPlace + ((min e f : Nat) : Int))).toNat = e - min e f := by omega
  have e4 : (k.format.leastPlace + (f : Int) - (k.format.leastPlace + ((min e f : Nat) : Int))).toNat = f - min e f := by omega
  rw [e3, e4]
  have hS := sum_scaled (sgn k x) (!(sgn k y)) m n e f (min e f) (Nat.min_le_left ..) (Nat.min_le_right ..)
  rw [← hz, ← hz2] at hS
  have hopp : sg (!(sgn k y)) (zv k (rung k y)) = - sv k y := by unfold sv; cases sgn k y <;> simp [sg]
  have hS : _ = sv k x - sv k y := hS.trans (by rw [hopp]; rfl)
  generalize signed (sgn k x) m (e - min e f) + signed (!(sgn k y)) n (f - min e f) = T at *
  generalize min e f = c at *
  have hpos : 0 < 2 ^ c := Nat.two_pow_pos c
  have hab : T.natAbs * 2 ^ c = zv k r := by rw [← h, ← hS, Int.natAbs_mul, Int.natAbs_natCast]
  have hrung := nearest_exact k (if T = 0 then sgn k x && !(sgn k y) else decide (T < 0)) (mag := T.natAbs) (r := r) (place := k.format.leastPlace + (c : Int)) (b := k.format.leastPlace) hr (by omega) (Int.le_refl _) (by
    rw [show (k.format.leastPlace + (c : Int) - k.format.leastPlace).toNat = c by omega, show (k.format.leastPlace - k.format.leastPlace).toNat = 0 by omega, Nat.pow_zero, Nat.mul_one]; exact hab)
  show Fin k (k.format.nearest _ _ _) ∧ sv k (k.format.nearest _ _ _) = _
  refine ⟨by unfold Fin; rw [hrung]; exact hr, ?_⟩
  rw [sv_nearest k _ hrung, ← hS, ← hab]
  by_cases h0 : T = 0
  · subst h0
    rw [if_pos rfl]
    cases sgn k x && !(sgn k y) <;> simp [sg]
  · rw [if_neg h0]
    by_cases h1 : T < 0
    · rw [decide_eq_true h1]
      simp only [sg, if_true]
      rw [Int.natCast_mul, ← Int.neg_mul]
      congr 1; omega
    · rw [decide_eq_false h1]
      simp only [sg, Bool.false_eq_true, if_false]
      rw [Int.natCast_mul]
      congr 1; omega
/-- what the format has: few digits, and not too great -/
theorem rep (k : FloatKind) {m e : Nat} (hm : m < 2 ^ (k.format.fractionBits + 1)) (he : (e + 2) * k.format.binade ≤ k.format.infRung) : ∃ r, r < k.format.infRung ∧ zv k r = m * 2 ^ e := by
  have hB : k.format.binade = 2 ^ k.format.fractionBits := rfl
  have hp := bin_pos k
  by_cases h0 : m = 0
  · subst h0; exact ⟨0, by have := bin_le k; omega, by rw [zv_zero, Nat.zero_mul]⟩
  · have hl1 : 2 ^ m.log2 ≤ m := Nat.log2_self_le h0
    have hl2 : m < 2 ^ (m.log2 + 1) := Nat.lt_log2_self
    have hl : m.log2 ≤ k.format.fractionBits := log2_lt hm
    generalize m.log2 = l at *
    by_cases hc : l + e < k.format.fractionBits
    · have h1 : m * 2 ^ e < k.format.binade := by
        rw [hB]
        calc m * 2 ^ e < 2 ^ (l + 1) * 2 ^ e := Nat.mul_lt_mul_of_pos_right hl2 (Nat.two_pow_pos _)
          _ = 2 ^ (l + 1 + e) := (Nat.pow_add ..).symm
          _ ≤ 2 ^ k.format.fractionBits := Nat.pow_le_pow_right (by omega) (by omega)
      refine ⟨m * 2 ^ e, by have := bin_le k; omega, ?_⟩
      unfold zv; rw [if_pos h1]
    · have k1 : k.format.binade ≤ m * 2 ^ (k.format.fractionBits - l) := by
        have := Nat.mul_le_mul_right (2 ^ (k.format.fractionBits - l)) hl1
        rw [← Nat.pow_add, show l + (k.format.fractionBits - l) = k.format.fractionBits by omega] at this
        exact this
      have k2 : m * 2 ^ (k.format.fractionBits - l) < 2 * k.format.binade := by
        have := Nat.mul_lt_mul_of_pos_right hl2 (Nat.two_pow_pos (k.format.fractionBits - l))
        rw [← Nat.pow_add, show l + 1 + (k.format.fractionBits - l) = k.format.fractionBits + 1 by omega, Nat.pow_succ, ← hB] at this
        omega
      have hK : m * 2 ^ (k.format.fractionBits - l) * 2 ^ (e - (k.format.fractionBits - l)) = m * 2 ^ e := by
        rw [Nat.mul_assoc, ← Nat.pow_add, show k.format.fractionBits - l + (e - (k.format.fractionBits - l)) = e by omega]
      generalize m * 2 ^ (k.format.fractionBits - l) = M at *
      generalize hE : e - (k.format.fractionBits - l) = E at *
      have hEe : E ≤ e := by omega
      refine ⟨(E + 1) * k.format.binade + (M - k.format.binade), ?_, ?_⟩
      · have h5 := Nat.mul_le_mul_right k.format.binade (show E + 2 ≤ e + 2 by omega)
        rw [show E + 2 = E + 1 + 1 from rfl, Nat.succ_mul] at h5
        omega
      · unfold zv
        rw [if_neg (by rw [Nat.succ_mul]; omega)]
        have hmod : ((E + 1) * k.format.binade + (M - k.format.binade)) % k.format.binade = M - k.format.binade := by
          rw [Nat.mul_comm, Nat.mul_add_mod, Nat.mod_eq_of_lt (by omega)]
        have hdiv : ((E + 1) * k.format.binade + (M - k.format.binade)) / k.format.binade = E + 1 := by
          rw [Nat.mul_comm, Nat.mul_add_div hp, Nat.div_eq_of_lt (by omega), Nat.add_zero]
        rw [hmod, hdiv, show k.format.binade + (M - k.format.binade) = M by omega, Nat.add_sub_cancel, hK]
end Fl
end Go.Proofs.Ytipdgnhbmfmhnaa

/- Sizes of sums, differences and products between words: rounding is monotone. -/
set_option linter.unusedVariables false
set_option linter.unusedSimpArgs false
namespace Go.Proofs.Ytipdgnhbmfmhnaa
namespace Fl
open Ieee
theorem nearest_le (k : FloatKind) (neg : Bool) {mag c : Nat} {place b : Int} (hc : c < k.format.infRung) (hb : b ≤ place) (hbl : b ≤ k.format.leastPlace)
    (h : mag * 2 ^ (place - b).toNat ≤ zv k c * 2 ^ (k.format.leastPlace - b).toNat) : rung k (k.format.nearest neg mag place) ≤ c := by
  obtain ⟨m, e, hz, hform, hlt⟩ := rung_form k c
  have hN := nearest_rung k neg hc hz hform
  have he : (k.format.leastPlace + (e : Int) - b).toNat = e + (k.format.leastPlace - b).toNat := by omega
  have h2 : mag * 2 ^ (place - b).toNat ≤ m * 2 ^ (k.format.leastPlace + (e : Int) - b).toNat := by
    rw [he, Nat.pow_add, ← Nat.mul_assoc, ← hz]; exact h
  have h3 := nearest_mono k neg neg (mag := mag) (mag' := m) (place := place) (place' := k.format.leastPlace + (e : Int)) (b := b) hb (by omega) hbl h2
  rw [hN] at h3
  exact h3
theorem nearest_ge (k : FloatKind) (neg : Bool) {mag c : Nat} {place b : Int} (hc : c < k.format.infRung) (hb : b ≤ place) (hbl : b ≤ k.format.leastPlace)
    (h : zv k c * 2 ^ (k.format.leastPlace - b).toNat ≤ mag * 2 ^ (place - b).toNat) : c ≤ rung k (k.format.nearest neg mag place) := by
  obtain ⟨m, e, hz, hform, hlt⟩ := rung_form k c
  have hN := nearest_rung k neg hc hz hform
  have he : (k.format.leastPlace + (e : Int) - b).toNat = e + (k.format.leastPlace - b).toNat := by omega
  have h2 : m * 2 ^ (k.format.leastPlace + (e : Int) - b).toNat ≤ mag * 2 ^ (place - b).toNat := by
    rw [he, Nat.pow_add, ← Nat.mul_assoc, ← hz]; exact h
  have h3 := nearest_mono k neg neg (mag := m) (mag' := mag) (place := k.format.leastPlace + (e : Int)) (place' := place) (b := b) (by omega) hb hbl h2
  rw [hN] at h3
  exact h3
/-- what is known of a rounded value -/
structure Rnd (k : FloatKind) (V : Int) (z : Nat) : Prop where
  le : ∀ c, c < k.format.infRung → V.natAbs ≤ zv k c → rung k z ≤ c
  ge : ∀ c, c < k.format.infRung → zv k c ≤ V.natAbs → c ≤ rung k z
  sgn : V ≠ 0 → sgn k z = decide (V < 0)
theorem rnd_of (k : FloatKind) {T V : Int} {c : Nat} {s : Bool} (hT : T * ((2 ^ c : Nat) : Int) = V) :
    Rnd k V (k.format.nearest (if T = 0 then s else decide (T < 0)) T.natAbs (k.format.leastPlace + (c : Int))) ∧ (V = 0 → Fl.sgn k (k.format.nearest (if T = 0 then s else decide (T < 0)) T.natAbs (k.format.leastPlace + (c : Int))) = s) := by
  have hpos : (0 : Int) < ((2 ^ c : Nat) : Int) := Int.natCast_pos.2 (Nat.two_pow_pos c)
  have hab : T.natAbs * 2 ^ c = V.natAbs := by rw [← hT, Int.natAbs_mul, Int.natAbs_natCast]
  have e1 : (k.format.leastPlace + (c : Int) - k.format.leastPlace).toNat = c := by omega
  have e2 : (k.format.leastPlace - k.format.leastPlace).toNat = 0 := by omega
  refine ⟨⟨fun d hd h => ?_, fun d hd h => ?_, fun h => ?_⟩, fun h => ?_⟩
  · refine nearest_le k _ (b := k.format.leastPlace) hd (by omega) (Int.le_refl _) ?_
    rw [e1, e2, Nat.pow_zero, Nat.mul_one, hab]; exact h
  · refine nearest_ge k _ (b := k.format.leastPlace) hd (by omega) (Int.le_refl _) ?_
    rw [e1, e2, Nat.pow_zero, Nat.mul_one, hab]; exact h
  · rw [sgn_nearest]
    have hT0 : T ≠ 0 := by intro e; rw [e, Int.zero_mul] at hT; exact h hT.symm
    rw [if_neg hT0]
    have : (T < 0) ↔ (V < 0) := by
      rw [← hT]
      constructor
      · intro h1; exact Int.mul_neg_of_neg_of_pos h1 hpos
      · intro h1
        by_cases h2 : T < 0
        · exact h2
        · exact absurd (Int.mul_nonneg (Int.not_lt.1 h2) (Int.le_of_lt hpos)) (by omega)
    exact decide_eq_decide.2 this
  · rw [sgn_nearest]
    have hT0 : T = 0 := by
      rw [h] at hT
      rcases Int.mul_eq_zero.1 hT with h1 | h1
      · exact h1
      · omega
    rw [if_pos hT0]
theorem add_val (k : FloatKind) {x y : Nat} (hx : Fin k x) (hy : Fin k y) :
    ∃ z, floatBits .add k x y = some z ∧ Rnd k (sv k x + sv k y) z ∧ (sv k x + sv k y = 0 → sgn k z = (sgn k x && sgn k y)) := by
  obtain ⟨m, e, hm, hz⟩ := read_fin k hx
  obtain ⟨n, f, hn, hz2⟩ := read_fin k hy
  simp only [floatBits, Format.add, hm, hn, Datum.sum, Option.map_some]
  refine ⟨_, rfl, ?_⟩
  have e2 : min (k.format.leastPlace + (e : Int)) (k.format.leastPlace + (f : Int)) = k.format.leastPlace + ((min e f : Nat) : Int) := by omega
  rw [e2]
  have e3 : (k.format.leastPlace + (e : Int) - (k.format.leastPlace + ((min e f : Nat) : Int))).toNat = e - min e f := by omega
  have e4 : (k.format.leastPlace + (f : Int) - (k.format.leastPlace + ((min e f : Nat) : Int))).toNat = f - min e f := by omega
  rw [e3, e4]
  have hS := sum_scaled (sgn k x) (sgn k y) m n e f (min e f) (Nat.min_le_left ..) (Nat.min_le_right ..)
  rw [← hz, ← hz2] at hS
  change _ = sv k x + sv k y at hS
  exact rnd_of k hS
theorem sub_val (k : FloatKind) {x y : Nat} (hx : Fin k x) (hy : Fin k y) :
    ∃ z, floatBits .sub k x y = some z ∧ Rnd k (sv k x - sv k y) z ∧ (sv k x - sv k y = 0 → sgn k z = (sgn k x && !(sgn k y))) := by
  obtain ⟨m, e, hm, hz⟩ := read_fin k hx
  obtain ⟨n, f, hn, hz2⟩ := read_fin k hy
  simp only [floatBits, Format.sub, hm, hn, Datum.opposite, Datum.sum, Option.map_some]
  refine ⟨_, rfl, ?_⟩
  have e2 : min (k.format.leastPlace + (e : Int)) (k.format.leastPlace + (f : Int)) = k.format.leastPlace + ((min e f : Nat) : Int) := by omega
  rw [e2]
  have e3 : (k.format.leastPlace + (e : Int) - (k.format.leastPlace + ((min e f : Nat) : Int))).toNat = e - min e f := by omega
  have e4 : (k.format.leastPlace + (f : Int) - (k.format.leastPlace + ((min e f : Nat) : Int))).toNat = f - min e f := by omega
  rw [e3, e4]
  have hS := sum_scaled (sgn k x) (!(sgn k y)) m n e f (min e f) (Nat.min_le_left ..) (Nat.min_le_right ..)
  rw [← hz, ← hz2] at hS
  have hopp : sg (!(sgn k y)) (zv k (rung k y)) = - sv k y := by unfold sv; cases sgn k y <;> simp [sg]
  have hS : _ = sv k x - sv k y := hS.trans (by rw [hopp]; rfl)
  exact rnd_of k hS
theorem mul_val (k : FloatKind) {x y : Nat} (hx : Fin k x) (hy : Fin k y) (P : Nat) (hP : (P : Int) = -k.format.leastPlace) :
    ∃ z, floatBits .mul k x y = some z ∧ sgn k z = (sgn k x ^^ sgn k y) ∧
      (∀ c, c < k.format.infRung → zv k (rung k x) * zv k (rung k y) ≤ zv k c * 2 ^ P → rung k z ≤ c) ∧
      (∀ c, c < k.format.infRung → zv k c * 2 ^ P ≤ zv k (rung k x) * zv k (rung k y) → c ≤ rung k z) := by
  obtain ⟨m, e, hm, hz⟩ := read_fin k hx
  obtain ⟨n, f, hn, hz2⟩ := read_fin k hy
  simp only [floatBits, Format.mul, hm, hn, Datum.product, Option.map_some]
  refine ⟨_, rfl, sgn_nearest k _ _ _, fun c hc h => ?_, fun c hc h => ?_⟩
  all_goals
    have hprod : (m * n) * 2 ^ (e + f) = zv k (rung k x) * zv k (rung k y) := by rw [hz, hz2, Nat.pow_add]; ac_rfl
    rw [← hprod] at h
    have e1 : (k.format.leastPlace + (e : Int) + (k.format.leastPlace + (f : Int)) - (k.format.leastPlace + k.format.leastPlace)).toNat = e + f := by omega
    have e2 : (k.format.leastPlace - (k.format.leastPlace + k.format.leastPlace)).toNat = P := by omega
  · exact nearest_le k _ (b := k.format.leastPlace + k.format.leastPlace) hc (by omega) (by omega) (by rw [e1, e2]; exact h)
  · exact nearest_ge k _ (b := k.format.leastPlace + k.format.leastPlace) hc (by omega) (by omega) (by rw [e1, e2]; exact h)
end Fl
end Go.Proofs.Ytipdgnhbmfmhnaa

/- Plain numbers: sevenths and sixteenths, all of them. -/
set_option linter.unusedVariables false
set_option linter.unusedSimpArgs false
namespace Go.Proofs.Ytipdgnhbmfmhnaa
open Fl Go.RowKit
def plL : List Nat := [3239201061, 3239051264, 3238901467, 3238751671, 3238601874, 3238452078, 3238302281, 3238152485, 3238002688, 3237703095, 3237403502, 3237103909,
  3236804315, 3236504722, 3236205129, 3235905536, 3235605943, 3235306350, 3235006757, 3234707163, 3234407570, 3234107977, 3233808384, 3233508791,
  3233209198, 3232909605, 3232610011, 3232310418, 3232010825, 3231711232, 3231411639, 3231112046, 3230812453, 3230512859, 3230213266, 3229913673,
  3229614080, 3229014894, 3228415707, 3227816521, 3227217335, 3226618149, 3226018962, 3225419776, 3224820590, 3224221403, 3223622217, 3223023031,
  3222423845, 3221824658, 3221225472, 3220027099, 3218828727, 3217630354, 3216431982, 3215233609, 3214035237, 3212836864, 3210440119, 3208043374,
  3205646629, 3202051511, 3197258021, 3188869413, 0, 1041385765, 1049774373, 1054567863, 1058162981, 1060559726, 1062956471, 1065353216,
  1066551589, 1067749961, 1068948334, 1070146706, 1071345079, 1072543451, 1073741824, 1074341010, 1074940197, 1075539383, 1076138569, 1076737755,
  1077336942, 1077936128, 1078535314, 1079134501, 1079733687, 1080332873, 1080932059, 1081531246, 1082130432, 1082430025, 1082729618, 1083029211,
  1083328805, 1083628398, 1083927991, 1084227584, 1084527177, 1084826770, 1085126363, 1085425957, 1085725550, 1086025143, 1086324736, 1086624329,
  1086923922, 1087223515, 1087523109, 1087822702, 1088122295, 1088421888, 1088721481, 1089021074, 1089320667, 1089620261, 1089919854, 1090219447,
  1090519040, 1090668837, 1090818633, 1090968430, 1091118226, 1091268023, 1091417819, 1091567616, 1091717413, 3229614080, 3229351936, 3229089792,
  3228827648, 3228565504, 3228303360, 3228041216, 3227779072, 3227516928, 3227254784, 3226992640, 3226730496, 3226468352, 3226206208, 3225944064,
  3225681920, 3225419776, 3225157632, 3224895488, 3224633344, 3224371200, 3224109056, 3223846912, 3223584768, 3223322624, 3223060480, 3222798336,
  3222536192, 3222274048, 3222011904, 3221749760, 3221487616, 3221225472, 3220701184, 3220176896, 3219652608, 3219128320, 3218604032, 3218079744,
  3217555456, 3217031168, 3216506880, 3215982592, 3215458304, 3214934016, 3214409728, 3213885440, 3213361152, 3212836864, 3211788288, 3210739712,
  3209691136, 3208642560, 3207593984, 3206545408, 3205496832, 3204448256, 3202351104, 3200253952, 3198156800, 3196059648, 3191865344, 3187671040,
  3179282432, 0, 1031798784, 1040187392, 1044381696, 1048576000, 1050673152, 1052770304, 1054867456, 1056964608, 1058013184, 1059061760,
  1060110336, 1061158912, 1062207488, 1063256064, 1064304640, 1065353216, 1065877504, 1066401792, 1066926080, 1067450368, 1067974656, 1068498944,
  1069023232, 1069547520, 1070071808, 1070596096, 1071120384, 1071644672, 1072168960, 1072693248, 1073217536, 1073741824, 1074003968, 1074266112,
  1074528256, 1074790400, 1075052544, 1075314688, 1075576832, 1075838976, 1076101120, 1076363264, 1076625408, 1076887552, 1077149696, 1077411840,
  1077673984, 1077936128, 1078198272, 1078460416, 1078722560, 1078984704, 1079246848, 1079508992, 1079771136, 1080033280, 1080295424, 1080557568,
  1080819712, 1081081856, 1081344000, 1081606144, 1081868288, 1082130432]
def plW (i : Nat) : Nat := plL.getD i 0
set_option maxRecDepth 100000 in
theorem pl_tab7 : ∀ i : Nat, i < 129 → opO .quo .f32 (some (fI ((i : Int) - 64))) (some 1088421888) = some (plW i) := by decide +kernel
set_option maxRecDepth 100000 in
theorem pl_tab16 : ∀ i : Nat, i < 129 → opO .quo .f32 (some (fI ((i : Int) - 64))) (some 1098907648) = some (plW (129 + i)) := by decide +kernel
set_option maxRecDepth 100000 in
theorem pl_small : ∀ i < 258, plW i < 4294967296 ∧ plW i % 2147483648 ≤ 1091999999 := by decide +kernel
/-- a number that is plain -/
def Pl (X : O) : Prop := ∃ i, i < 258 ∧ X = some (plW i)
theorem pl_fv {i : Nat} (h : i < 258) : Hid (Fv .f32 (plW i) (some (plW i))) := by
  obtain ⟨h1, h2⟩ := pl_small i h
  exact fvc h1 (by omega)
set_option maxHeartbeats 4000000 in
set_option maxRecDepth 100000 in
theorem plainW_any (B b K : Nat) (w : World) (h : Src B b K w) (hK : K ≤ 900000) :
    Calls Try.prog 12 #[.pointer (some ⟨b, 0, none⟩)] w fun e w' => ∃ q Q, e = .returned (.float .f32 q) ∧ Hid (Fv .f32 q Q) ∧ Hid (Pl Q) ∧ Src B b (K + 4) w' ∧ On b w w' := by
  have HH := Lib.hid h; clear h
  go_enter Try.func12, Try.ntmps12
  go_wp2_with fail
  refine (pick_any B b K 129 w HH.out (by omega) (by omega)).mono ?_
  rintro e w1 ⟨v1, rfl, a1, a2, s1, o1⟩
  have a3 := a2 (by omega)
  have S1 := Lib.hid s1; have O1 := Lib.hid o1; clear s1 o1 a2
  go_wp2_with fail
  refine (one_any B b (K + 2) 4 w1 S1.out (by omega) (by omega)).mono ?_
  rintro e w2 ⟨v2, rfl, s2, o2⟩
  have S2 := Lib.hid s2; have O2 := Lib.hid o2; clear s2 o2
  have q1 := fI_fv (v1 - 64)
  have q7 : Hid (Fv .f32 1088421888 (some 1088421888)) := fvc (by decide) (by decide)
  have q16 : Hid (Fv .f32 1098907648 (some 1098907648)) := fvc (by decide) (by decide)
  obtain ⟨i, hi⟩ := Int.eq_ofNat_of_zero_le a1
  have T7 : Hid (Pl (opO .quo .f32 (some (fI (v1 - 64))) (some 1088421888))) := Lib.hid ⟨i, by omega, by rw [hi]; exact pl_tab7 i (by omega)⟩
  have T16 : Hid (Pl (opO .quo .f32 (some (fI (v1 - 64))) (some 1098907648))) := Lib.hid ⟨129 + i, by omega, by rw [hi]; exact pl_tab16 i (by omega)⟩
  clear hi
  cases v2
  all_goals
    go_wp2_with (with_reducible_and_instances refine Lo.wpList_fo _ rfl _ _ _ _ _ rfl _ _ _ _ _ rfl rfl rfl (by assumption) (by assumption) ?_; intro rr nn hrr)
    go_ret
    exact ⟨_, _, rfl, hrr, by assumption, S2.out.drewN _, (O1.out.trans O2.out).drewN _⟩
/-- a row of plain numbers -/
def PlA (lo : Nat) (w : World) (v : Value) (k : Nat) : Prop := (∃ F, Rw lo w v k F ∧ ∀ j, j < k → Pl (F j)) ∧ ∃ g c, v = .slice (some ⟨g, 0, none⟩) k c
theorem PlA.grown {lo : Nat} {w : World} {v : Value} {k : Nat} {F : Nat → O} (h : Rw lo w v (k + 1) F) (hp : ∀ j, j < k + 1 → Pl (F j)) : PlA lo w v (k + 1) := by
  refine ⟨⟨F, h, hp⟩, ?_⟩
  obtain ⟨A, c, xs, rfl, _, hn, hs, _⟩ := h.fin
  cases A with
  | none => exact absurd (hn rfl).1 (by omega)
  | some a =>
    obtain ⟨g, rfl, _⟩ := hs a rfl
    exact ⟨g, c, rfl⟩
theorem PlA.end_ {lo : Nat} {w : World} {v : Value} {k : Nat} (h : PlA lo w v k) : ∃ g c xs, v = .slice (some ⟨g, 0, none⟩) k c ∧ k ≤ c ∧ Gs 24 w lo (some ⟨g, 0, none⟩) k xs ∧ ∀ j, j < k → Pl (ab .f32 (wd xs j)) := by
  obtain ⟨⟨F, hF, hp⟩, g, c, rfl⟩ := h
  obtain ⟨A, c', xs, e, hc, _, _, hg, hf⟩ := hF.fin
  injection e with e1 e2 e3
  subst e1; subst e3
  exact ⟨g, c, xs, rfl, hc, hg, fun j hj => by rw [hf j hj]; exact hp j hj⟩
theorem PlA.pick {lo : Nat} {w : World} {v : Value} {k : Nat} {Q : O} (h : PlA lo w v k) (hq : Pl Q) : ∃ F, Rw lo w v k F ∧ F k = Q ∧ ∀ j, j < k + 1 → Pl (F j) := by
  obtain ⟨⟨F, hF, hp⟩, _⟩ := h
  exact ⟨fun j => if j = k then Q else F j, hF.like fun j hj => by simp [show j ≠ k by omega], by simp, fun j hj => by
    by_cases e : j = k
    · simp only [e, if_true]; exact hq
    · simp only [e, if_false]; exact hp j (by omega)⟩
theorem PlA.on {lo g : Nat} {w w' : World} {v : Value} {k : Nat} (h : PlA lo w v k) (o : On g w w') (hg : g < lo) : PlA lo w' v k := by
  obtain ⟨⟨F, hF, hp⟩, hv⟩ := h
  exact ⟨⟨F, hF.on o hg, hp⟩, hv⟩
/-- plain numbers that a call has drawn: a list in memory of its own -/
def PPl (n : Nat) (w : World) (e : Ending) (w' : World) : Prop := ∃ (g c : Nat) (xs : List Nat), e = .returned (.slice (some ⟨g, 0, none⟩) n c) ∧ n ≤ c ∧ Gs 24 w' w.heap.size (some ⟨g, 0, none⟩) n xs ∧ Hid (∀ j, j < n → Pl (ab .f32 (wd xs j))) ∧ w.Since w.heap.size w'
set_option maxHeartbeats 4000000 in
set_option maxRecDepth 100000 in
theorem plainsW_any (A : Option Addr) (n c : Nat) (xs : List Int) (m : Nat) (w : World) (h : Bs w w.heap.size A n xs) (hn : n ≤ 1048576) (hm : m ≤ 9000) :
    Calls Try.prog 6 #[.slice A n c, .int .i64 (m : Int)] w (PPl m w) := by
  have HH := Lib.hid h; clear h
  go_enter Try.func6, Try.ntmps6
  go_wp2_with fail
  refine (source_any A n c xs w HH.out hn).mono ?_
  rintro e w1 ⟨rfl, s1, t1⟩
  have S1 := Lib.hid s1; have T1 := Lib.hid t1; clear s1 t1
  go_wp2_with fail
  generalize hW : World.alloc _ _ = W
  have z1 := T1.out.size
  have R2 : Hid (PlA w1.heap.size W (.slice (some ⟨w1.heap.size, 0, none⟩) 0 0) 0) := Lib.hid (by rw [← hW]; exact ⟨⟨fun _ => none, Rw.start w1 _ (Nat.le_refl _) _, fun j hj => by omega⟩, _, _, rfl⟩)
  have S2 : Hid (Src w.heap.size w.heap.size 0 W) := Lib.hid (S1.out.on (by rw [← hW]; exact (World.Since.refl _ _).alloc (by have := S1.out.lt; omega) _))
  have O2 : Hid (On w.heap.size w1 W) := Lib.hid (by rw [← hW]; exact (On.refl _ _).alloc z1 _)
  have hl1 : w.heap.size < w1.heap.size := S1.out.lt
  clear hW
  go_loopw [6, 7] (fun v i wr => ∃ k : Nat, k ≤ m ∧ i = .int .i64 (k : Int) ∧ PlA w1.heap.size wr v k ∧ Src w.heap.size w.heap.size (4 * k) wr ∧ On w.heap.size w1 wr) (fun _ i _ => m - (intOf i).toNat)
  case atStart => exact ⟨0, Nat.zero_le _, rfl, R2.out, S2.out, O2.out⟩
  case round =>
    obtain ⟨k, hk, rfl, hr, hs, ho⟩ := hrel
    have HR := Lib.hid hr; have HS := Lib.hid hs; have HO := Lib.hid ho
    clear hr hs ho
    by_cases hlt2 : k < m
    · go_wp2_with fail
      refine (plainW_any w.heap.size w.heap.size (4 * k) wr HS.out (by omega)).mono ?_
      rintro e w3 ⟨q, Q, rfl, hq, hpl, s3, o3⟩
      have S3 : Hid (Src w.heap.size w.heap.size (4 * (k + 1)) w3) := Lib.hid (s3.up (by omega))
      have O3 := Lib.hid (HO.out.trans o3); have R3 := Lib.hid (HR.out.on o3 hl1)
      clear s3 o3
      obtain ⟨F, hF, hFk, hFp⟩ := R3.out.pick hpl.out
      have hlo : w1.heap.size ≤ w3.heap.size := O3.out.1.size
      have HF := Lib.hid hF; have HP := Lib.hid hFp; clear hF hFp
      have hz : Hid (Fv .f32 q (F k)) := by rw [hFk]; exact hq
      go_wp2_with (at_builtin; refine wpList_app1 rfl (.tmp 16) (.tmp 19) rfl w1.heap.size _ k _ rfl _ _ rfl (by simp [go_sem]) (by omega) (by simp; omega) hz (HF.out.alloc _) ?_; intro v' w4 hR4 hS4)
      have hs4 : w3.Since w1.heap.size w4 := ((World.Since.refl _ _).alloc hlo _).trans hS4.out
      have HS4 := Lib.hid hs4; clear hs4
      go_roundw
      case rel => exact ⟨k + 1, by omega, by go_num, PlA.grown hR4.out HP.out, S3.out.on (since_mono HS4.out (by omega)), on_post O3.out HS4.out (Nat.le_refl _) hl1⟩
      case measure => simp [intOf]; omega
    · obtain rfl : k = m := by omega
      obtain ⟨g, cp, zs, rfl, hcp, hg, hpp⟩ := HR.out.end_
      have HG := Lib.hid (hg.less z1); have HPP := Lib.hid hpp; clear hg hpp
      have T3 : Hid (w.Since w.heap.size wr) := Lib.hid (T1.out.trans (HO.out.since (Nat.le_refl _)))
      go_wp2
      go_ret
      exact ⟨g, cp, zs, rfl, hcp, HG.out, HPP, T3.out⟩
end Go.Proofs.Ytipdgnhbmfmhnaa

/- Levels and gains of small samples: a level is at most the next number behind the greatest size, a gain at most 1. -/
set_option linter.unusedVariables false
set_option linter.unusedSimpArgs false
namespace Go.Proofs.Ytipdgnhbmfmhnaa
namespace Fl
open Ieee
/-- a number that is not negative, and at most c -/
structure Nn (c b : Nat) : Prop where
  lt : b < 4294967296
  fin : Fin .f32 b
  sgn : sgn .f32 b = false
  le : rung .f32 b ≤ c
theorem ir_f32 : FloatKind.f32.format.infRung = 2139095040 := by decide
theorem zv_one : zv .f32 1065353216 = 2 ^ 149 := by decide +kernel
theorem sv_nn {c b : Nat} (h : Nn c b) : sv .f32 b = (zv .f32 (rung .f32 b) : Int) := by unfold sv sg; rw [h.sgn]; rfl
theorem zv_next {r m e : Nat} (hme : (r < FloatKind.f32.format.binade ∧ m = r ∧ e = 0) ∨ (¬ r < FloatKind.f32.format.binade ∧ m = FloatKind.f32.format.binade + r % FloatKind.f32.format.binade ∧ e = r / FloatKind.f32.format.binade - 1)) : zv .f32 (r + 1) = (m + 1) * 2 ^ e := by
  have hb : FloatKind.f32.format.binade = 8388608 := by decide
  unfold zv
  rw [hb] at hme ⊢
  rcases hme with ⟨h, rfl, rfl⟩ | ⟨h, rfl, rfl⟩
  · by_cases h1 : m + 1 < 8388608
    · rw [if_pos h1]; simp
    · have : m + 1 = 8388608 := by omega
      rw [if_neg h1, this]
  · rw [if_neg (by omega)]
    by_cases h1 : r % 8388608 + 1 < 8388608
    · rw [show (r + 1) % 8388608 = r % 8388608 + 1 by omega, show (r + 1) / 8388608 = r / 8388608 by omega]
      congr 1
    · rw [show (r + 1) % 8388608 = 0 by omega, show (r + 1) / 8388608 = r / 8388608 + 1 by omega, show r % 8388608 = 8388607 by omega]
      obtain ⟨q, hq⟩ : ∃ q, r / 8388608 = q + 1 := ⟨r / 8388608 - 1, by omega⟩
      rw [hq, show q + 1 + 1 - 1 = q + 1 by omega, show q + 1 - 1 = q by omega, Nat.pow_succ]
      generalize 2 ^ q = p
      omega
/-- the exponent of a number -/
theorem form_e {r m e C E : Nat} (hme : (r < FloatKind.f32.format.binade ∧ m = r ∧ e = 0) ∨ (¬ r < FloatKind.f32.format.binade ∧ m = FloatKind.f32.format.binade + r % FloatKind.f32.format.binade ∧ e = r / FloatKind.f32.format.binade - 1)) (hr : r < C) (hE : C ≤ (E + 2) * 8388608) : e ≤ E := by
  have hb : FloatKind.f32.format.binade = 8388608 := by decide
  rw [hb] at hme
  rcases hme with ⟨h, rfl, rfl⟩ | ⟨h, rfl, rfl⟩
  · omega
  · omega
theorem ceil_mul {t m E : Nat} (hE : 0 < E) (h : t ≤ m * E) : ∃ j, j ≤ m ∧ t ≤ j * E ∧ j * E ≤ t + E := by
  refine ⟨(t + E - 1) / E, ?_, ?_, ?_⟩
  · refine Nat.le_of_lt_succ ((Nat.div_lt_iff_lt_mul hE).2 ?_)
    rw [Nat.succ_mul]; omega
  · have := Nat.div_add_mod (t + E - 1) E
    have h2 := Nat.mod_lt (t + E - 1) hE
    rw [Nat.mul_comm] at this
    omega
  · have := Nat.div_mul_le_self (t + E - 1) E
    omega
theorem fin_abK {k : FloatKind} {b : Nat} (h : Fin k b) : ab k b = some b := by
  unfold ab
  unfold Fin rung at h
  rw [if_neg (by omega)]
theorem opw_lt {op : BinOp} (hop : isF op = true) {x y q : Nat} (hx : x < 4294967296) (hy : y < 4294967296) (fx : Fin .f32 x) (fy : Fin .f32 y) (h : floatBits op .f32 x y = some q) : q < 4294967296 := by
  obtain ⟨r, hr⟩ := Lo.fv_ex (op := op) hop .f32 _ _ _ _ ⟨hx, fin_abK fx⟩ ⟨hy, fin_abK fy⟩
  rw [show opO op .f32 (some x) (some y) = some q from h] at hr
  rw [ab_some hr.2]; exact hr.1
/-- a difference of two numbers, rounded: at most one unit of the greater more -/
theorem sub_up {c b s l : Nat} (hs : Nn c s) (hl : Nn b l) (h : rung .f32 l ≤ rung .f32 s) :
    ∃ d, floatBits .sub .f32 s l = some d ∧ Nn (rung .f32 s) d ∧ zv .f32 (rung .f32 d) + zv .f32 (rung .f32 l) ≤ zv .f32 (rung .f32 s + 1) := by
  obtain ⟨d, hd, hR, h0⟩ := sub_val .f32 hs.fin hl.fin
  rw [sv_nn hs, sv_nn hl] at hR h0
  have hle := (zv_le .f32).2 h
  have hab : ((zv .f32 (rung .f32 s) : Int) - (zv .f32 (rung .f32 l) : Int)).natAbs = zv .f32 (rung .f32 s) - zv .f32 (rung .f32 l) := by omega
  have hrle : rung .f32 d ≤ rung .f32 s := hR.le _ hs.fin (by rw [hab]; omega)
  refine ⟨d, hd, ⟨opw_lt rfl hs.lt hl.lt hs.fin hl.fin hd, Nat.lt_of_le_of_lt hrle hs.fin, ?_, hrle⟩, ?_⟩
  · by_cases hv : (zv .f32 (rung .f32 s) : Int) - (zv .f32 (rung .f32 l) : Int) = 0
    · rw [h0 hv, hs.sgn]; rfl
    · rw [hR.sgn hv]; exact decide_eq_false (by omega)
  · obtain ⟨m, e, hz, hform, hm⟩ := rung_form .f32 (rung .f32 s)
    have he := form_e (E := 253) hform hs.fin (by rw [ir_f32]; decide)
    obtain ⟨j, j1, j2, j3⟩ := ceil_mul (t := zv .f32 (rung .f32 s) - zv .f32 (rung .f32 l)) (m := m) (E := 2 ^ e) (Nat.two_pow_pos e) (by rw [hz]; omega)
    obtain ⟨r, hr, hzr⟩ := rep .f32 (m := j) (e := e) (Nat.lt_of_le_of_lt j1 hm) (by
      rw [ir_f32, show FloatKind.f32.format.binade = 8388608 from by decide]; omega)
    have h4 := (zv_le .f32).2 (hR.le r hr (by rw [hab, hzr]; exact j2))
    rw [zv_next hform, Nat.succ_mul, ← hz]
    rw [hzr] at h4
    omega
/-- one step of a level, upwards -/
theorem up_step {c a l s : Nat} (ha : Nn 1065353216 a) (hl : Nn c l) (hs : Nn c s) (hc : rung .f32 s + 1 ≤ c) (hf : c < 2139095040) (h : rung .f32 l ≤ rung .f32 s) :
    ∃ d e q, floatBits .sub .f32 s l = some d ∧ floatBits .mul .f32 a d = some e ∧ floatBits .add .f32 l e = some q ∧ Nn c q := by
  obtain ⟨d, hd, nd, hv⟩ := sub_up hs hl h
  obtain ⟨e, he, se, le1, _⟩ := mul_val .f32 ha.fin nd.fin 149 (by decide)
  have hee : rung .f32 e ≤ rung .f32 d := le1 _ nd.fin (by
    rw [Nat.mul_comm]
    refine Nat.mul_le_mul_left _ ?_
    rw [← zv_one]
    exact (zv_le .f32).2 ha.le)
  have ne : Nn (rung .f32 d) e := ⟨opw_lt rfl ha.lt nd.lt ha.fin nd.fin he, Nat.lt_of_le_of_lt hee nd.fin, by rw [se, ha.sgn, nd.sgn]; rfl, hee⟩
  obtain ⟨q, hq, hR, h0⟩ := add_val .f32 hl.fin ne.fin
  rw [sv_nn hl, sv_nn ne] at hR h0
  have z1 := (zv_le .f32).2 hee
  have z2 := (zv_le .f32).2 hc
  have hfc : c < FloatKind.f32.format.infRung := by rw [ir_f32]; exact hf
  have hqc : rung .f32 q ≤ c := hR.le c hfc (by omega)
  refine ⟨d, e, q, hd, he, hq, opw_lt rfl hl.lt ne.lt hl.fin ne.fin hq, Nat.lt_of_le_of_lt hqc hfc, ?_, hqc⟩
  by_cases hv : (zv .f32 (rung .f32 l) : Int) + (zv .f32 (rung .f32 e) : Int) = 0
  · rw [h0 hv, hl.sgn]; rfl
  · rw [hR.sgn hv]; exact decide_eq_false (by omega)
/-- one step of a level, downwards -/
theorem down_step {c a l s : Nat} (ha : Nn 1065353216 a) (hl : Nn c l) (hs : Nn c s) (h : rung .f32 s < rung .f32 l) :
    ∃ d e q, floatBits .sub .f32 s l = some d ∧ floatBits .mul .f32 a d = some e ∧ floatBits .add .f32 l e = some q ∧ Nn c q := by
  obtain ⟨d, hd, hR, _⟩ := sub_val .f32 hs.fin hl.fin
  rw [sv_nn hs, sv_nn hl] at hR
  have hlt := (zv_lt .f32).2 h
  have hdl : rung .f32 d ≤ rung .f32 l := hR.le _ hl.fin (by omega)
  have fd : Fin .f32 d := Nat.lt_of_le_of_lt hdl hl.fin
  have sd : sgn .f32 d = true := by rw [hR.sgn (by omega)]; exact decide_eq_true (by omega)
  obtain ⟨e, he, se, le1, _⟩ := mul_val .f32 ha.fin fd 149 (by decide)
  have hee : rung .f32 e ≤ rung .f32 d := le1 _ fd (by
    rw [Nat.mul_comm]
    refine Nat.mul_le_mul_left _ ?_
    rw [← zv_one]
    exact (zv_le .f32).2 ha.le)
  have fe : Fin .f32 e := Nat.lt_of_le_of_lt hee fd
  have hse : sgn .f32 e = true := by rw [se, ha.sgn, sd]; rfl
  have ve : sv .f32 e = -(zv .f32 (rung .f32 e) : Int) := by unfold sv sg; rw [hse]; rfl
  obtain ⟨q, hq, hR2, h02⟩ := add_val .f32 hl.fin fe
  rw [sv_nn hl, ve] at hR2 h02
  have z1 := (zv_le .f32).2 (Nat.le_trans hee hdl)
  have hql : rung .f32 q ≤ rung .f32 l := hR2.le _ hl.fin (by omega)
  have ld := opw_lt rfl hs.lt hl.lt hs.fin hl.fin hd
  have le_ := opw_lt rfl ha.lt ld ha.fin fd he
  refine ⟨d, e, q, hd, he, hq, opw_lt rfl hl.lt le_ hl.fin fe hq, Nat.lt_of_le_of_lt hql hl.fin, ?_, Nat.le_trans hql hl.le⟩
  by_cases hv : (zv .f32 (rung .f32 l) : Int) + -(zv .f32 (rung .f32 e) : Int) = 0
  · rw [h02 hv, hl.sgn]; rfl
  · rw [hR2.sgn hv]; exact decide_eq_false (by omega)
end Fl
open Fl Go.RowKit Ieee
theorem nn_flush {c b : Nat} (h : Nn c b) : Nn c (flushN b) := by
  obtain ⟨h0, h1, h2, h3⟩ := h
  unfold flushN
  split
  · next hlt =>
    unfold Fl.Fin at h1
    rw [rung32, ir_f32] at h1
    rw [rung32] at h3
    have e : b / 2147483648 * 2147483648 = 0 := by
      unfold sgn at h2
      have hs : FloatKind.f32.format.signWeight = 2147483648 := by decide
      rw [hs] at h2
      have : b / 2147483648 % 2 ≠ 1 := by intro h; rw [h] at h2; exact absurd h2 (by decide)
      omega
    rw [e]
    exact ⟨by decide, by show rung .f32 0 < _; decide, by decide, by rw [rung32]; omega⟩
  · exact ⟨h0, h1, h2, h3⟩
theorem flush_rung {b : Nat} (hb : b < 4294967296) : rung .f32 (flushN b) = 0 ∨ 8388608 ≤ rung .f32 (flushN b) := by
  rw [rung32]
  unfold flushN
  split
  · left; omega
  · right; omega
theorem nn_gt {c d x y : Nat} (hx : Nn c x) (hy : Nn d y) : gtO (some x) (some y) = decide (rung .f32 y < rung .f32 x) := by
  unfold gtO
  show (FloatKind.f32.format.order x y == some .gt) = _
  rw [order_key .f32 (fin_abK hx.fin) (fin_abK hy.fin)]
  unfold key
  rw [hx.sgn, hy.sgn]
  show (some (compare (rung .f32 x : Int) (rung .f32 y : Int)) == some .gt) = _
  rw [cmp_def]
  by_cases h1 : (rung .f32 x : Int) < (rung .f32 y : Int)
  · rw [if_pos h1, decide_eq_false (by omega)]; rfl
  · rw [if_neg h1]
    by_cases h2 : (rung .f32 x : Int) = (rung .f32 y : Int)
    · rw [if_pos h2, decide_eq_false (by omega)]; rfl
    · rw [if_neg h2, decide_eq_true (by omega)]; rfl
/-- a level stays from 0 to c -/
theorem lev_step {c a r l s : Nat} {X : O} (ha : Nn 1065353216 a) (hr : Nn 1065353216 r) (hl : Nn c l) (hs : Nn c s) (hX : sizeO X = some s) (hc : rung .f32 s + 1 ≤ c) (hf : c < 2139095040) :
    ∃ q, folO (some a) (some r) (some l) X = some q ∧ Nn c q ∧ (rung .f32 q = 0 ∨ 8388608 ≤ rung .f32 q) := by
  unfold folO
  rw [hX, nn_gt hs hl]
  by_cases h : rung .f32 l < rung .f32 s
  · rw [decide_eq_true h]
    obtain ⟨d, e, q, h1, h2, h3, hq⟩ := up_step ha hl hs hc hf (Nat.le_of_lt h)
    refine ⟨flushN q, ?_, nn_flush hq, flush_rung hq.lt⟩
    show (opO .add .f32 (some l) (opO .mul .f32 (some a) (opO .sub .f32 (some s) (some l)))).map flushN = _
    rw [show opO .sub .f32 (some s) (some l) = some d from h1, show opO .mul .f32 (some a) (some d) = some e from h2, show opO .add .f32 (some l) (some e) = some q from h3]
    rfl
  · rw [decide_eq_false h]
    obtain ⟨d, e, q, h1, h2, h3, hq⟩ : ∃ d e q, floatBits .sub .f32 s l = some d ∧ floatBits .mul .f32 r d = some e ∧ floatBits .add .f32 l e = some q ∧ Nn c q := by
      rcases Nat.lt_or_ge (rung .f32 s) (rung .f32 l) with h4 | h4
      · exact down_step hr hl hs h4
      · exact up_step hr hl hs hc hf h4
    refine ⟨flushN q, ?_, nn_flush hq, flush_rung hq.lt⟩
    show (opO .add .f32 (some l) (opO .mul .f32 (some r) (opO .sub .f32 (some s) (some l)))).map flushN = _
    rw [show opO .sub .f32 (some s) (some l) = some d from h1, show opO .mul .f32 (some r) (some d) = some e from h2, show opO .add .f32 (some l) (some e) = some q from h3]
    rfl
/-- all levels of numbers whose sizes are less than c -/
theorem lev_all {c a r : Nat} {X : Nat → O} {n : Nat} (ha : Nn 1065353216 a) (hr : Nn 1065353216 r) (hX : ∀ j, j < n → ∃ s, sizeO (X j) = some s ∧ Nn c s ∧ rung .f32 s + 1 ≤ c) (hf : c < 2139095040) :
    ∀ k, k ≤ n → ∃ q, levO ⟨some a, some r, some 0⟩ X k = some q ∧ Nn c q ∧ (rung .f32 q = 0 ∨ 8388608 ≤ rung .f32 q)
  | 0, _ => ⟨0, rfl, ⟨by decide, by show rung .f32 0 < _; decide, by decide, by rw [rung32]; omega⟩, .inl (by decide)⟩
  | k + 1, hk => by
    obtain ⟨l, hl, nl, _⟩ := lev_all ha hr hX hf k (by omega)
    obtain ⟨s, h1, h2, h3⟩ := hX k (by omega)
    show ∃ q, folO (some a) (some r) (levO ⟨some a, some r, some 0⟩ X k) (X k) = some q ∧ _
    rw [hl]
    exact lev_step ha hr nl h2 h1 h3 hf
/-- a plain number's size -/
theorem pl_size {X : O} (h : Pl X) : ∃ s, sizeO X = some s ∧ Nn 1092000000 s ∧ rung .f32 s + 1 ≤ 1092000000 := by
  obtain ⟨i, hi, rfl⟩ := h
  obtain ⟨h1, h2⟩ := pl_small i hi
  refine ⟨plW i % 2147483648, rfl, ⟨by omega, ?_, ?_, ?_⟩, ?_⟩
  · show rung .f32 _ < _
    rw [rung32, ir_f32]; omega
  · unfold sgn
    have hs : FloatKind.f32.format.signWeight = 2147483648 := by decide
    rw [hs, show plW i % 2147483648 / 2147483648 = 0 by omega]; rfl
  · rw [rung32]; omega
  · rw [rung32]; omega
end Go.Proofs.Ytipdgnhbmfmhnaa

/- Filters that follow slowly come to rest: each step makes the sizes less, and flushing ends them. -/
set_option linter.unusedVariables false
set_option linter.unusedSimpArgs false
namespace Go.Proofs.Ytipdgnhbmfmhnaa
open Fl Go.RowKit Ieee
def rsL : List Nat := [1031798784, 1040187392, 1044381696, 1048576000, 1050673152, 1052770304, 1054867456, 1056964608, 1058013184, 1059061760, 1060110336, 1061158912, 1062207488, 1063256064, 1064304640, 1065353216]
def raL : List Nat := [3211788288, 3210739712, 3209691136, 3208642560, 3207593984, 3206545408, 3205496832, 3204448256, 3202351104, 3200253952, 3198156800, 3196059648, 3191865344, 3187671040, 3179282432, 0]
def rsW (k : Nat) : Nat := rsL.getD k 0
def raW (k : Nat) : Nat := raL.getD k 0
theorem rs_tab : ∀ k : Nat, k < 16 → opO .quo .f32 (some (fI (1 + (k : Int)))) (some 1098907648) = some (rsW k) ∧ su (some (rsW k)) (some 1065353216) = some (raW k) ∧ rung .f32 (rsW k) ≤ 1065353216 ∧ rung .f32 (raW k) ≤ 1065353216 ∧ rsW k < 4294967296 ∧ raW k < 4294967296 := by decide +kernel
def rsF (k : Nat) : Fil := ⟨some (rsW k), some 0, some 0, some (raW k), some 0⟩
/-- a number whose size is at most that of the word c -/
def Sz (c : Nat) (X : O) : Prop := ∃ q, X = some q ∧ rung .f32 q ≤ c
theorem Sz.more {c d : Nat} {X : O} (h : Sz c X) (hd : c ≤ d) : Sz d X := by obtain ⟨q, e, h⟩ := h; exact ⟨q, e, Nat.le_trans h hd⟩
theorem sz_zero (c : Nat) : Sz c (some 0) := ⟨0, rfl, by rw [show rung .f32 0 = 0 by decide]; exact Nat.zero_le _⟩
theorem fin_le {c q : Nat} (hc : c < 2139095040) (h : rung .f32 q ≤ c) : Fl.Fin .f32 q := by show rung .f32 q < _; rw [ir_f32]; omega
theorem rung_self {c : Nat} (hc : c < 2139095040) : rung .f32 c = c := by rw [rung32]; omega
/-- products: the greatest words' product -/
theorem sz_mul {c d t : Nat} {X Y : O} (hc : c < 2139095040) (hd : d < 2139095040) (ht : floatBits .mul .f32 c d = some t) (hX : Sz c X) (hY : Sz d Y) : Sz (rung .f32 t) (mu X Y) := by
  obtain ⟨x, rfl, hx⟩ := hX
  obtain ⟨y, rfl, hy⟩ := hY
  have rc := rung_self hc; have rd := rung_self hd
  obtain ⟨r, t', hr, ht', hle⟩ := mul_size .f32 (fin_le hc hx) (fin_le hd hy) (fin_le hc (Nat.le_of_eq rc)) (fin_le hd (Nat.le_of_eq rd)) (by rw [rc]; exact hx) (by rw [rd]; exact hy)
  rw [ht] at ht'; injection ht' with ht'; subst ht'
  exact ⟨r, hr, hle⟩
theorem mul_zero_word : ∀ d, d < 2139095040 → ∃ t, floatBits .mul .f32 0 d = some t ∧ rung .f32 t = 0 := by
  intro d hd
  have f0 : Fl.Fin .f32 0 := by show rung .f32 0 < _; decide
  have fd : Fl.Fin .f32 d := fin_le hd (Nat.le_of_eq (rung_self hd))
  obtain ⟨t, ht, _, hl, _⟩ := mul_val .f32 f0 fd 149 (by decide)
  exact ⟨t, ht, Nat.le_zero.1 (hl 0 (by decide) (by rw [show rung .f32 0 = 0 by decide, zv_zero, Nat.zero_mul, Nat.zero_mul]; exact Nat.le_refl _))⟩
theorem sz_mul0 {d : Nat} {X Y : O} (hd : d < 2139095040) (hX : Sz 0 X) (hY : Sz d Y) : Sz 0 (mu X Y) := by
  obtain ⟨t, ht, h0⟩ := mul_zero_word d hd
  have := sz_mul (by decide) hd ht hX hY
  rw [h0] at this
  exact this
theorem sz_mul1 {d : Nat} {X Y : O} (hd : d < 2139095040) (hX : Sz d X) (hY : Sz 0 Y) : Sz 0 (mu X Y) := by
  obtain ⟨x, rfl, hx⟩ := hX
  obtain ⟨y, rfl, hy⟩ := hY
  obtain ⟨t, ht, _, hl, _⟩ := mul_val .f32 (fin_le hd hx) (fin_le (c := 0) (by decide) hy) 149 (by decide)
  refine ⟨t, ht, hl 0 (by decide) ?_⟩
  rw [Nat.le_zero.1 hy, zv_zero, Nat.mul_zero, Nat.zero_mul]
  exact Nat.le_refl _
theorem sv_size (x : Nat) : (sv .f32 x).natAbs = zv .f32 (rung .f32 x) := by
  unfold sv sg; split <;> omega
theorem sv_none {x : Nat} (h : rung .f32 x = 0) : sv .f32 x = 0 := by
  have := sv_size x
  rw [h, zv_zero] at this
  omega
/-- sums with a zero keep the size -/
theorem sz_add0 {c : Nat} {X Y : O} (hc : c < 2139095040) (hX : Sz 0 X) (hY : Sz c Y) : Sz c (ad X Y) := by
  obtain ⟨x, rfl, hx⟩ := hX
  obtain ⟨y, rfl, hy⟩ := hY
  obtain ⟨z, hz, R, _⟩ := add_val .f32 (fin_le (c := 0) (by decide) hx) (fin_le hc hy)
  refine ⟨z, hz, R.le c (by rw [ir_f32]; exact hc) ?_⟩
  rw [sv_none (Nat.le_zero.1 hx), Int.zero_add, sv_size]
  exact (zv_le .f32).2 hy
theorem sz_add1 {c : Nat} {X Y : O} (hc : c < 2139095040) (hX : Sz c X) (hY : Sz 0 Y) : Sz c (ad X Y) := by
  obtain ⟨x, rfl, hx⟩ := hX
  obtain ⟨y, rfl, hy⟩ := hY
  obtain ⟨z, hz, R, _⟩ := add_val .f32 (fin_le hc hx) (fin_le (c := 0) (by decide) hy)
  refine ⟨z, hz, R.le c (by rw [ir_f32]; exact hc) ?_⟩
  rw [sv_none (Nat.le_zero.1 hy), Int.add_zero, sv_size]
  exact (zv_le .f32).2 hx
theorem sz_sub0 {c : Nat} {X Y : O} (hc : c < 2139095040) (hX : Sz 0 X) (hY : Sz c Y) : Sz c (su X Y) := by
  obtain ⟨x, rfl, hx⟩ := hX
  obtain ⟨y, rfl, hy⟩ := hY
  obtain ⟨z, hz, R, _⟩ := sub_val .f32 (fin_le (c := 0) (by decide) hx) (fin_le hc hy)
  refine ⟨z, hz, R.le c (by rw [ir_f32]; exact hc) ?_⟩
  rw [sv_none (Nat.le_zero.1 hx), Int.zero_sub, Int.natAbs_neg, sv_size]
  exact (zv_le .f32).2 hy
theorem sz_sub1 {c : Nat} {X Y : O} (hc : c < 2139095040) (hX : Sz c X) (hY : Sz 0 Y) : Sz c (su X Y) := by
  obtain ⟨x, rfl, hx⟩ := hX
  obtain ⟨y, rfl, hy⟩ := hY
  obtain ⟨z, hz, R, _⟩ := sub_val .f32 (fin_le hc hx) (fin_le (c := 0) (by decide) hy)
  refine ⟨z, hz, R.le c (by rw [ir_f32]; exact hc) ?_⟩
  rw [sv_none (Nat.le_zero.1 hy), Int.sub_zero, sv_size]
  exact (zv_le .f32).2 hx
/-- two numbers of at most c: the sum is at most the next binade's -/
theorem sz_add {c : Nat} {X Y : O} (hc : c + 8388608 < 2139095040) (h1 : 8388608 ≤ c) (hX : Sz c X) (hY : Sz c Y) : Sz (c + 8388608) (ad X Y) := by
  obtain ⟨x, rfl, hx⟩ := hX
  obtain ⟨y, rfl, hy⟩ := hY
  obtain ⟨z, hz, R, _⟩ := add_val .f32 (fin_le (show c < 2139095040 by omega) hx) (fin_le (show c < 2139095040 by omega) hy)
  refine ⟨z, hz, R.le (c + 8388608) (by rw [ir_f32]; exact hc) ?_⟩
  have h2 := (zv_le .f32).2 hx
  have h3 := (zv_le .f32).2 hy
  have hb : FloatKind.f32.format.binade = 8388608 := by decide
  have h4 : zv .f32 (c + 8388608) = 2 * zv .f32 c := by
    unfold zv
    rw [hb, if_neg (by omega), if_neg (by omega), show (c + 8388608) % 8388608 = c % 8388608 by omega, show (c + 8388608) / 8388608 - 1 = (c / 8388608 - 1) + 1 by omega, Nat.pow_succ]
    ac_rfl
  have h5 := sv_size x
  have h6 := sv_size y
  rw [h4]
  omega
def flC (c : Nat) : Nat := if c < 8388608 then 0 else c
theorem flC_le (c : Nat) : flC c ≤ c := by unfold flC; split <;> omega
theorem sz_flush {c : Nat} {X : O} (h : Sz c X) : Sz (flC c) (flO true X) := by
  obtain ⟨q, rfl, hq⟩ := h
  refine ⟨flushN q, rfl, ?_⟩
  rw [rung32] at hq ⊢
  unfold flushN flC
  by_cases h1 : q % 2147483648 < 8388608
  · rw [if_pos h1, Nat.mul_mod_left]; exact Nat.zero_le _
  · rw [if_neg h1, if_neg (by omega)]; exact hq
theorem sz_flush' {c : Nat} {X : O} (h : Sz c X) : Sz c (flO true X) := (sz_flush h).more (flC_le c)
/-- the sizes' bounds, step by step -/
def stepT (k c : Nat) : Nat := if c = 0 then 0 else match floatBits .mul .f32 (rung .f32 (raW k)) c with
  | some z => flC (rung .f32 z)
  | none => 0
def itB (k : Nat) : Nat → Nat → Nat
  | 0, c => c
  | n + 1, c => itB k n (stepT k c)
def it2 (k : Nat) : Nat → Nat → Nat
  | 0, c => c
  | m + 1, c => it2 k m (itB k 100 c)
def B0 : Nat := 1100388608
def BB (k : Nat) : Nat → Nat
  | 0 => B0
  | n + 1 => stepT k (BB k n)
theorem itB_comm (k : Nat) : ∀ n c, itB k n (stepT k c) = stepT k (itB k n c)
  | 0, c => rfl
  | n + 1, c => by show itB k n (stepT k (stepT k c)) = _; rw [itB_comm k n (stepT k c)]; rfl
theorem itB_BB (k : Nat) : ∀ n, itB k n B0 = BB k n
  | 0 => rfl
  | n + 1 => by show itB k n (stepT k B0) = stepT k (BB k n); rw [itB_comm, itB_BB k n]
theorem itB_add (k : Nat) : ∀ n m c, itB k n (itB k m c) = itB k (m + n) c
  | n, 0, c => by rw [Nat.zero_add]; rfl
  | n, m + 1, c => by rw [show m + 1 + n = (m + n) + 1 by omega]; show itB k n (itB k m (stepT k c)) = itB k (m + n) (stepT k c); exact itB_add k n m _
theorem it2_itB (k : Nat) : ∀ m c, it2 k m c = itB k (100 * m) c
  | 0, c => rfl
  | m + 1, c => by
    show it2 k m (itB k 100 c) = _
    rw [it2_itB k m, itB_add, show 100 + 100 * m = 100 * (m + 1) by omega]
set_option maxRecDepth 1000000 in
set_option maxHeartbeats 1000000000 in
theorem rest_tab0 : it2 0 15 B0 = 0 := by decide +kernel
set_option maxRecDepth 1000000 in
set_option maxHeartbeats 1000000000 in
theorem rest_tab1 : it2 1 15 B0 = 0 := by decide +kernel
set_option maxRecDepth 1000000 in
set_option maxHeartbeats 1000000000 in
theorem rest_tab2 : it2 2 15 B0 = 0 := by decide +kernel
set_option maxRecDepth 1000000 in
set_option maxHeartbeats 1000000000 in
theorem rest_tab3 : it2 3 15 B0 = 0 := by decide +kernel
set_option maxRecDepth 1000000 in
set_option maxHeartbeats 1000000000 in
theorem rest_tab4 : it2 4 15 B0 = 0 := by decide +kernel
set_option maxRecDepth 1000000 in
set_option maxHeartbeats 1000000000 in
theorem rest_tab5 : it2 5 15 B0 = 0 := by decide +kernel
set_option maxRecDepth 1000000 in
set_option maxHeartbeats 1000000000 in
theorem rest_tab6 : it2 6 15 B0 = 0 := by decide +kernel
set_option maxRecDepth 1000000 in
set_option maxHeartbeats 1000000000 in
theorem rest_tab7 : it2 7 15 B0 = 0 := by decide +kernel
set_option maxRecDepth 1000000 in
set_option maxHeartbeats 1000000000 in
theorem rest_tab8 : it2 8 15 B0 = 0 := by decide +kernel
set_option maxRecDepth 1000000 in
set_option maxHeartbeats 1000000000 in
theorem rest_tab9 : it2 9 15 B0 = 0 := by decide +kernel
set_option maxRecDepth 1000000 in
set_option maxHeartbeats 1000000000 in
theorem rest_tab10 : it2 10 15 B0 = 0 := by decide +kernel
set_option maxRecDepth 1000000 in
set_option maxHeartbeats 1000000000 in
theorem rest_tab11 : it2 11 15 B0 = 0 := by decide +kernel
set_option maxRecDepth 1000000 in
set_option maxHeartbeats 1000000000 in
theorem rest_tab12 : it2 12 15 B0 = 0 := by decide +kernel
set_option maxRecDepth 1000000 in
set_option maxHeartbeats 1000000000 in
theorem rest_tab13 : it2 13 15 B0 = 0 := by decide +kernel
set_option maxRecDepth 1000000 in
set_option maxHeartbeats 1000000000 in
theorem rest_tab14 : it2 14 15 B0 = 0 := by decide +kernel
set_option maxRecDepth 1000000 in
set_option maxHeartbeats 1000000000 in
theorem rest_tab15 : it2 15 15 B0 = 0 := by decide +kernel
theorem rest_tab : ∀ k, k < 16 → BB k 1500 = 0 := by
  have go : ∀ k, it2 k 15 B0 = 0 → BB k 1500 = 0 := fun k h => by rw [← itB_BB, ← h, it2_itB]
  intro k hk
  have h : k = 0 ∨ k = 1 ∨ k = 2 ∨ k = 3 ∨ k = 4 ∨ k = 5 ∨ k = 6 ∨ k = 7 ∨ k = 8 ∨ k = 9 ∨ k = 10 ∨ k = 11 ∨ k = 12 ∨ k = 13 ∨ k = 14 ∨ k = 15 := by omega
  rcases h with rfl | rfl | rfl | rfl | rfl | rfl | rfl | rfl | rfl | rfl | rfl | rfl | rfl | rfl | rfl | rfl
  · exact go _ rest_tab0
  · exact go _ rest_tab1
  · exact go _ rest_tab2
  · exact go _ rest_tab3
  · exact go _ rest_tab4
  · exact go _ rest_tab5
  · exact go _ rest_tab6
  · exact go _ rest_tab7
  · exact go _ rest_tab8
  · exact go _ rest_tab9
  · exact go _ rest_tab10
  · exact go _ rest_tab11
  · exact go _ rest_tab12
  · exact go _ rest_tab13
  · exact go _ rest_tab14
  · exact go _ rest_tab15
theorem stepT_le {k c : Nat} (hk : k < 16) (hc : c < 2139095040) : stepT k c ≤ c := by
  unfold stepT
  split
  · exact Nat.zero_le _
  · obtain ⟨_, _, _, h1, _⟩ := rs_tab k hk
    have hr : rung .f32 (raW k) < 2139095040 := by omega
    have rr := rung_self hr
    have rc := rung_self hc
    obtain ⟨z, hz, _, hl, _⟩ := mul_val .f32 (fin_le hr (Nat.le_of_eq rr)) (fin_le hc (Nat.le_of_eq rc)) 149 (by decide)
    rw [hz]
    refine Nat.le_trans (flC_le _) (hl c (by rw [ir_f32]; exact hc) ?_)
    rw [rr, rc, Nat.mul_comm, ← zv_one]
    exact Nat.mul_le_mul_left _ ((zv_le .f32).2 h1)
theorem BB_le (k : Nat) (hk : k < 16) : ∀ n, BB k n ≤ B0
  | 0 => Nat.le_refl _
  | n + 1 => Nat.le_trans (stepT_le hk (Nat.lt_of_le_of_lt (BB_le k hk n) (by decide))) (BB_le k hk n)
/-- one product with the share's rest, flushed -/
theorem sz_step {k c : Nat} {X : O} (hk : k < 16) (hc : c < 2139095040) (h : Sz c X) : Sz c (mu (some (raW k)) X) ∧ ∃ t, Sz t (mu (some (raW k)) X) ∧ t ≤ c ∧ flC t ≤ stepT k c := by
  obtain ⟨_, _, _, h1, _⟩ := rs_tab k hk
  have hr : rung .f32 (raW k) < 2139095040 := by omega
  have hA : Sz (rung .f32 (raW k)) (some (raW k)) := ⟨_, rfl, Nat.le_refl _⟩
  by_cases h0 : c = 0
  · subst h0
    have := sz_mul1 hr hA h
    exact ⟨this, 0, this, Nat.le_refl _, by unfold flC; rw [if_pos (by decide)]; exact Nat.zero_le _⟩
  · have rr := rung_self hr
    have rc := rung_self hc
    obtain ⟨z, hz, _, hl, _⟩ := mul_val .f32 (fin_le hr (Nat.le_of_eq rr)) (fin_le hc (Nat.le_of_eq rc)) 149 (by decide)
    have := sz_mul hr hc hz hA h
    have hle : rung .f32 z ≤ c := hl c (by rw [ir_f32]; exact hc) (by
      rw [rr, rc, Nat.mul_comm, ← zv_one]
      exact Nat.mul_le_mul_left _ ((zv_le .f32).2 h1))
    refine ⟨this.more hle, _, this, hle, ?_⟩
    unfold stepT
    rw [if_neg h0, hz]
    exact Nat.le_refl _
end Go.Proofs.Ytipdgnhbmfmhnaa

/- Filters that follow slowly come to rest: the memories of the three forms. -/
set_option linter.unusedVariables false
set_option linter.unusedSimpArgs false
namespace Go.Proofs.Ytipdgnhbmfmhnaa
open Fl Go.RowKit Ieee
theorem BB_zero {k : Nat} (hk : k < 16) : ∀ n, BB k (1500 + n) = 0
  | 0 => rest_tab k hk
  | n + 1 => by
    show stepT k (BB k (1500 + n)) = 0
    rw [BB_zero hk n]; rfl
theorem BB_lt {k : Nat} (hk : k < 16) (n : Nat) : BB k n < 2139095040 := Nat.lt_of_le_of_lt (BB_le k hk n) (by decide)
theorem rs_sz {k : Nat} (hk : k < 16) : Sz 1065353216 (some (rsW k)) := ⟨_, rfl, (rs_tab k hk).2.2.1⟩
structure J0 (k n : Nat) (M : Mem) : Prop where
  a : Sz B0 M.a
  b : Sz B0 M.b
  c : Sz (BB k n) M.c
  d : Sz (BB k (n - 1)) M.d
  a0 : 1 ≤ n → Sz 0 M.a
  b0 : 2 ≤ n → Sz 0 M.b
theorem J0.step {k n : Nat} {M : Mem} (hk : k < 16) (h : J0 k n M) : J0 k (n + 1) (stepM 0 true (rsF k) M (some 0)) := by
  have hB := BB_lt hk n
  have hD := BB_lt hk (n - 1)
  have b0l : B0 < 2139095040 := by decide
  obtain ⟨_, t, ht, htc, hfl⟩ := sz_step hk hB h.c
  have ht2 : t < 2139095040 := Nat.lt_of_le_of_lt htc hB
  have z : Sz 0 (some 0) := sz_zero 0
  have t1 : Sz 0 (mu (some (rsW k)) (some 0)) := sz_mul1 (by decide) (rs_sz hk) z
  have t2 : Sz 0 (mu (some 0) M.a) := sz_mul0 b0l z h.a
  have t3 : Sz 0 (mu (some 0) M.b) := sz_mul0 b0l z h.b
  have t5 : Sz 0 (mu (some 0) M.d) := sz_mul0 hD z h.d
  have y : Sz (BB k (n + 1)) (dirY true (some (rsW k)) (some 0) (some 0) (some (raW k)) (some 0) M.a M.b M.c M.d (some 0)) := by
    unfold dirY
    exact (sz_flush (sz_sub1 ht2 (sz_sub0 ht2 (sz_add0 (by decide) (sz_add0 (by decide) t1 t2) t3) ht) t5)).more hfl
  exact ⟨sz_flush' (sz_zero _), sz_flush' h.a, sz_flush' y, sz_flush' h.c, fun _ => sz_flush' z, fun hn => sz_flush' (h.a0 (by omega))⟩
structure J1 (k n : Nat) (M : Mem) : Prop where
  z : n = 0 → Sz 1092000000 M.a ∧ Sz 1092000000 M.b
  a : 1 ≤ n → Sz (BB k (n - 1)) M.a
  b : 1 ≤ n → Sz 0 M.b ∧ Sz 0 M.c ∧ Sz 0 M.d
theorem J1.step {k n : Nat} {M : Mem} (hk : k < 16) (h : J1 k n M) : J1 k (n + 1) (stepM 1 true (rsF k) M (some 0)) := by
  have z : Sz 0 (some 0) := sz_zero 0
  have t1 : Sz 0 (mu (some (rsW k)) (some 0)) := sz_mul1 (by decide) (rs_sz hk) z
  have t2 : Sz 0 (mu (some 0) (some 0)) := sz_mul1 (d := 0) (by decide) z z
  -- in each case
  have go : ∀ c, c < 2139095040 → Sz c M.a → ∃ t, t ≤ c ∧ flC t ≤ stepT k c ∧ Sz t (su (mu (some 0) (some 0)) (mu (some (raW k)) (turY true (some (rsW k)) M.a (some 0)))) ∧ Sz 0 (turB (some 0) (some 0) (some 0) (turY true (some (rsW k)) M.a (some 0))) := by
    intro c hc ha
    have y : Sz c (turY true (some (rsW k)) M.a (some 0)) := by unfold turY; exact sz_flush' (sz_add0 hc t1 ha)
    obtain ⟨_, t, ht, htc, hfl⟩ := sz_step hk hc y
    refine ⟨t, htc, hfl, sz_sub0 (Nat.lt_of_le_of_lt htc hc) t2 ht, ?_⟩
    unfold turB
    exact sz_sub1 (by decide) t2 (sz_mul0 hc z y)
  by_cases h0 : n = 0
  · subst h0
    obtain ⟨ha, hb⟩ := h.z rfl
    obtain ⟨t, htc, _, hs, hB⟩ := go 1092000000 (by decide) ha
    have hA : Sz B0 (turA (some 0) (some (raW k)) M.b (some 0) (turY true (some (rsW k)) M.a (some 0))) := by
      unfold turA
      exact sz_add (c := 1092000000) (by decide) (by decide) (hs.more htc) hb
    exact ⟨fun h => absurd h (by omega), fun _ => sz_flush' hA, fun _ => ⟨sz_flush' hB, sz_flush' z, sz_flush' z⟩⟩
  · have hn : 1 ≤ n := by omega
    have hc := BB_lt hk (n - 1)
    obtain ⟨t, htc, hfl, hs, hB⟩ := go _ hc (h.a hn)
    have hA : Sz t (turA (some 0) (some (raW k)) M.b (some 0) (turY true (some (rsW k)) M.a (some 0))) := by
      unfold turA
      exact sz_add1 (Nat.lt_of_le_of_lt htc hc) hs (h.b hn).1
    have e : BB k (n + 1 - 1) = stepT k (BB k (n - 1)) := by
      obtain ⟨m, rfl⟩ : ∃ m, n = m + 1 := ⟨n - 1, by omega⟩
      rfl
    exact ⟨fun h => absurd h (by omega), fun _ => by rw [e]; exact (sz_flush hA).more hfl, fun _ => ⟨sz_flush' hB, sz_flush' z, sz_flush' z⟩⟩
structure J2 (k n : Nat) (M : Mem) : Prop where
  a : Sz (BB k n) M.a
  b : Sz (BB k (n - 1)) M.b
  c : 1 ≤ n → Sz 0 M.c ∧ Sz 0 M.d
theorem J2.step {k n : Nat} {M : Mem} (hk : k < 16) (h : J2 k n M) : J2 k (n + 1) (stepM 2 true (rsF k) M (some 0)) := by
  have hB := BB_lt hk n
  have hD := BB_lt hk (n - 1)
  have z : Sz 0 (some 0) := sz_zero 0
  obtain ⟨_, t, ht, htc, hfl⟩ := sz_step hk hB h.a
  have ht2 : t < 2139095040 := Nat.lt_of_le_of_lt htc hB
  have t5 : Sz 0 (mu (some 0) M.b) := sz_mul0 hD z h.b
  have w : Sz (BB k (n + 1)) (canW true (some (raW k)) (some 0) M.a M.b (some 0)) := by
    unfold canW
    exact (sz_flush (sz_sub1 ht2 (sz_sub0 ht2 z ht) t5)).more hfl
  exact ⟨sz_flush' w, sz_flush' h.a, fun _ => ⟨sz_flush' z, sz_flush' z⟩⟩
theorem sz_eq {X : O} (h : Sz 0 X) : eqO X (some 0) = true := by
  obtain ⟨q, rfl, hq⟩ := h
  have h0 : rung .f32 q = 0 := Nat.le_zero.1 hq
  unfold eqO
  show (FloatKind.f32.format.order q 0 == some .eq) = true
  have k0 : key .f32 q = 0 := by unfold key sg; rw [h0]; cases sgn .f32 q <;> rfl
  rw [order_key .f32 (fin_abK (fin_le (c := 0) (by decide) hq)) (show ab .f32 0 = some 0 by decide), k0]
  decide
theorem rest_all {form k : Nat} {M : Mem} (hf : form ≤ 2) (hk : k < 16) (ha : Sz 1092000000 M.a) (hb : Sz 1092000000 M.b) (hc : Sz 1092000000 M.c) (hd : Sz 1092000000 M.d) :
    stO (rstM form (rsF k) M 1510) = true := by
  have hB : (1092000000 : Nat) ≤ B0 := by decide
  have fin : ∀ {N : Mem}, Sz 0 N.a → Sz 0 N.b → Sz 0 N.c → Sz 0 N.d → stO N = true := by
    intro N h1 h2 h3 h4
    unfold stO
    rw [sz_eq h1, sz_eq h2, sz_eq h3, sz_eq h4]; rfl
  have e1 : BB k 1510 = 0 := BB_zero hk 10
  have e2 : BB k 1509 = 0 := BB_zero hk 9
  have hform : form = 0 ∨ form = 1 ∨ form = 2 := by omega
  rcases hform with rfl | rfl | rfl
  · have J : ∀ n, J0 k n (rstM 0 (rsF k) M n) := by
      intro n
      induction n with
      | zero => exact ⟨ha.more hB, hb.more hB, hc.more hB, hd.more hB, fun h => absurd h (by omega), fun h => absurd h (by omega)⟩
      | succ n ih => exact ih.step hk
    have := J 1510
    exact fin (this.a0 (by omega)) (this.b0 (by omega)) (by have := this.c; rw [e1] at this; exact this) (by have := this.d; rw [show 1510 - 1 = 1509 from rfl, e2] at this; exact this)
  · have J : ∀ n, J1 k n (rstM 1 (rsF k) M n) := by
      intro n
      induction n with
      | zero => exact ⟨fun _ => ⟨ha, hb⟩, fun h => absurd h (by omega), fun h => absurd h (by omega)⟩
      | succ n ih => exact ih.step hk
    have := J 1510
    obtain ⟨q1, q2, q3⟩ := this.b (by omega)
    exact fin (by have := this.a (by omega); rw [show 1510 - 1 = 1509 from rfl, e2] at this; exact this) q1 q2 q3
  · have J : ∀ n, J2 k n (rstM 2 (rsF k) M n) := by
      intro n
      induction n with
      | zero => exact ⟨ha.more hB, hb.more hB, fun h => absurd h (by omega)⟩
      | succ n ih => exact ih.step hk
    have := J 1510
    obtain ⟨q1, q2⟩ := this.c (by omega)
    exact fin (by have := this.a; rw [e1] at this; exact this) (by have := this.b; rw [show 1510 - 1 = 1509 from rfl, e2] at this; exact this) q1 q2
end Go.Proofs.Ytipdgnhbmfmhnaa

/- Draws: memories; the draws of laws of filters. -/
set_option linter.unusedVariables false
set_option linter.unusedSimpArgs false
namespace Go.Proofs.Ytipdgnhbmfmhnaa
open Fl Go.RowKit
theorem sinceSet {w a : World} (h : w.Since w.heap.size a) (o : Nat) (v : Value) : w.Since w.heap.size (a.setCell ⟨w.heap.size, o, none⟩ v) := h.setCell (Nat.le_refl _) _
end Go.Proofs.Ytipdgnhbmfmhnaa

/- SameMemory, walked. -/
set_option linter.unusedVariables false
set_option linter.unusedSimpArgs false
namespace Go.Proofs.Ytipdgnhbmfmhnaa
open Fl Go.RowKit
def sameB (a b : Nat) : Bool := decide (bitsO (ab .f32 a) = bitsO (ab .f32 b))
theorem sameInt (a b : Nat) : ((singleN a : Int) == (singleN b : Int)) = sameB a b := by
  unfold sameB
  rw [← single_bits, ← single_bits, Bool.eq_iff_iff]
  simp
  omega
end Go.Proofs.Ytipdgnhbmfmhnaa

/- Draws: the gate as a list of its own, blocks of it, and when it is open. -/
set_option linter.unusedVariables false
set_option linter.unusedSimpArgs false
namespace Go.Proofs.Ytipdgnhbmfmhnaa
open Fl Go.RowKit
/-- a list of numbers in a block of its own, with the places behind it -/
def PLIBo (n : Nat) (f : Nat → O) (i : Int) (b : Bool) (w : World) (e : Ending) (w' : World) : Prop :=
  ∃ (g c : Nat) (xs : List Nat), e = .returned (.tuple #[.slice (some ⟨g, 0, none⟩) n c, .int .i64 i, .bool b]) ∧ n ≤ c ∧ Gs 24 w' w.heap.size (some ⟨g, 0, none⟩) n xs ∧ Are ⟨some ⟨g, 0, none⟩, n, xs⟩ f ∧ w.Since w.heap.size w'
/-! blocks -/
theorem gateH_cut (X : Nat → O) (T : O) (hold held : Int) (a : Nat) : ∀ k, gateH (fun j => X (a + j)) T hold (gateH X T hold held a) k = gateH X T hold held (a + k)
  | 0 => rfl
  | k + 1 => by
    show (if geO (sizeO (X (a + k))) T then hold else _) = (if geO (sizeO (X (a + k))) T then hold else _)
    rw [gateH_cut X T hold held a k]
    rfl
theorem gateY_cut (X : Nat → O) (T : O) (hold held : Int) (a k : Nat) : gateY (fun j => X (a + j)) T hold (gateH X T hold held a) k = gateY X T hold held (a + k) := by
  unfold gateY
  rw [gateH_cut]
theorem gateH_like {X Y : Nat → O} {T : O} {hold held : Int} {n : Nat} (h : ∀ k, k < n → X k = Y k) : ∀ k, k ≤ n → gateH X T hold held k = gateH Y T hold held k
  | 0, _ => rfl
  | k + 1, hk => by
    unfold gateH
    rw [gateH_like h k (by omega), h k (by omega)]
theorem gateY_like {X Y : Nat → O} {T : O} {hold held : Int} {n : Nat} (h : ∀ k, k < n → X k = Y k) (k : Nat) (hk : k < n) : gateY X T hold held k = gateY Y T hold held k := by
  unfold gateY
  rw [gateH_like h k (by omega), h k hk]
/-! when it is open -/
/-- the last loud place before k -/
def lastO (X : Nat → O) (T : O) : Nat → Int
  | 0 => -1
  | k + 1 => if geO (sizeO (X k)) T then (k : Int) else lastO X T k
theorem lastO_in (X : Nat → O) (T : O) : ∀ k, -1 ≤ lastO X T k ∧ lastO X T k < (k : Int)
  | 0 => by unfold lastO; omega
  | k + 1 => by
    have := lastO_in X T k
    unfold lastO
    split <;> omega
theorem gateH_last (X : Nat → O) (T : O) (hold : Int) (h0 : 0 ≤ hold) : ∀ k, gateH X T hold 0 k = if 0 ≤ lastO X T k ∧ (k : Int) - 1 - lastO X T k ≤ hold then hold - ((k : Int) - 1 - lastO X T k) else 0
  | 0 => by unfold gateH lastO; simp
  | k + 1 => by
    have ih := gateH_last X T hold h0 k
    have hi := lastO_in X T k
    unfold gateH lastO
    by_cases h : geO (sizeO (X k)) T = true
    · rw [if_pos h, if_pos h, if_pos (by omega)]; omega
    · rw [if_neg h, if_neg h, ih]
      by_cases h1 : 0 ≤ lastO X T k ∧ (k : Int) - 1 - lastO X T k ≤ hold
      · rw [if_pos h1]
        by_cases h2 : 0 < hold - ((k : Int) - 1 - lastO X T k)
        · rw [if_pos h2, if_pos (by omega)]; omega
        · rw [if_neg h2, if_neg (by omega)]; omega
      · rw [if_neg h1, if_neg (by omega), if_neg (by omega)]
theorem gateY_open (X : Nat → O) (T : O) (hold : Int) (h0 : 0 ≤ hold) (k : Nat) : gateY X T hold 0 k = if 0 ≤ lastO X T (k + 1) ∧ (k : Int) - lastO X T (k + 1) ≤ hold then X k else some 0 := by
  have hH := gateH_last X T hold h0 k
  have hi := lastO_in X T k
  unfold gateY lastO
  by_cases h : geO (sizeO (X k)) T = true
  · rw [if_pos h, if_pos h, if_pos (by omega)]
  · rw [if_neg h, if_neg h, hH]
    by_cases h1 : 0 ≤ lastO X T k ∧ (k : Int) - lastO X T k ≤ hold
    · rw [if_pos h1, if_pos (by rw [if_pos (by omega)]; omega)]
    · rw [if_neg h1, if_neg]
      split <;> omega
/-! the greater one of a number and its opposite -/
theorem neg32 (b : Nat) (h : b < 4294967296) : Op.negFloat .f32 b = if b < 2147483648 then b + 2147483648 else b - 2147483648 := by
  have e2 := neg_mod .f32 b
  rw [sw32] at e2
  unfold Op.negFloat at e2 ⊢
  have e3 : (b ^^^ (2 ^ (FloatKind.f32.format.exponentBits + FloatKind.f32.format.fractionBits))) / 2147483648 = (b / 2147483648) ^^^ 1 := by
    rw [show (2 : Nat) ^ (FloatKind.f32.format.exponentBits + FloatKind.f32.format.fractionBits) = 2 ^ 31 by decide, show (2147483648 : Nat) = 2 ^ 31 by decide, ← Nat.shiftRight_eq_div_pow, Nat.shiftRight_xor_distrib, Nat.shiftRight_eq_div_pow, Nat.shiftRight_eq_div_pow]
  by_cases hb : b < 2147483648
  · rw [show b / 2147483648 = 0 by omega] at e3
    rw [if_pos hb]
    have : (0 ^^^ 1 : Nat) = 1 := by decide
    omega
  · rw [show b / 2147483648 = 1 by omega] at e3
    rw [if_neg hb]
    have : (1 ^^^ 1 : Nat) = 0 := by decide
    omega
theorem ge_key {x t : Nat} (hx : ab .f32 x = some x) (ht : ab .f32 t = some t) : geO (some x) (some t) = decide (key .f32 t ≤ key .f32 x) := by
  unfold geO gtO eqO ordO
  show ((FloatKind.f32.format.order x t == some .gt) || (FloatKind.f32.format.order x t == some .eq)) = _
  rw [order_key .f32 hx ht, cmp_def]
  rcases Int.lt_trichotomy (key .f32 x) (key .f32 t) with h | h | h
  · rw [if_pos h, decide_eq_false (by omega)]; rfl
  · rw [if_neg (by omega), if_pos h, decide_eq_true (by omega)]; rfl
  · rw [if_neg (by omega), if_neg (by omega), decide_eq_true (by omega)]; rfl
theorem ge_none (X : O) : geO X none = false := by cases X <;> rfl
theorem ge_size (x : Nat) (hx : x < 4294967296) (T : O) (t : Nat) (ht : Fv .f32 t T) : geO (sizeO (ab .f32 x)) T = (geO (ab .f32 x) T || geO (ab .f32 (Op.negFloat .f32 x)) T) := by
  obtain ⟨ht1, ht2⟩ := ht
  subst ht2
  have ht1' : t < 4294967296 := ht1
  have hm := neg_mod .f32 x
  rw [sw32] at hm
  rw [ab32 t]
  split
  · rw [ge_none, ge_none, ge_none]; rfl
  · next h1 =>
    rw [ab32 x, ab32 (Op.negFloat .f32 x), hm]
    by_cases h2 : 2139095040 < x % 2147483648
    · rw [if_pos h2, if_pos h2]; rfl
    · rw [if_neg h2, if_neg h2]
      have a1 : ab .f32 t = some t := by rw [ab32, if_neg h1]
      have a2 : ab .f32 x = some x := by rw [ab32, if_neg h2]
      have a3 : ab .f32 (Op.negFloat .f32 x) = some (Op.negFloat .f32 x) := by rw [ab32, hm, if_neg h2]
      have a4 : ab .f32 (sizeN x) = some (sizeN x) := by unfold sizeN; rw [ab32, Nat.mod_mod, if_neg h2]
      show geO (some (sizeN x)) (some t) = _
      rw [ge_key a4 a1, ge_key a2 a1, ge_key a3 a1]
      have hn := neg32 x hx
      have l3 : Op.negFloat .f32 x < 4294967296 := neg_lt .f32 hx
      have l4 : sizeN x < 4294967296 := sizeN_lt x
      rw [key32 _ l4, key32 _ hx, key32 _ l3, hn]
      unfold sizeN
      rw [← Bool.decide_or]
      congr 1
      by_cases hb : x < 2147483648
      · rw [if_pos (by omega), if_pos hb, if_pos hb, if_neg (by omega)]
        apply propext; constructor
        · intro h; left; omega
        · intro h; omega
      · rw [if_pos (by omega), if_neg hb, if_neg hb, if_pos (by omega)]
        apply propext; constructor
        · intro h; right; omega
        · intro h; omega
end Go.Proofs.Ytipdgnhbmfmhnaa

/- The law of gates. -/
set_option linter.unusedVariables false
set_option linter.unusedSimpArgs false
namespace Go.Proofs.Ytipdgnhbmfmhnaa
open Fl Go.RowKit
theorem Fs.head {w : World} {B n m : Nat} {A : Option Addr} {xs : List Nat} (h : Fs w B A n xs) (hm : m ≤ n) : Fs w B A m (xs.take m) :=
  ⟨by rw [List.length_take, h.1]; omega, fun x hx => h.2.1 x (List.mem_of_mem_take hx), fun h0 => by
    obtain ⟨g, off, e, hg, hc⟩ := h.2.2 (by omega)
    refine ⟨g, off, e, hg, fun k hk => ?_⟩
    rw [hc k (by omega)]
    unfold fv wd
    simp [List.getD_eq_getElem?_getD, List.getElem?_take, hk]⟩
theorem wd_take (xs : List Nat) (m k : Nat) (h : k < m) : wd (xs.take m) k = wd xs k := by unfold wd; simp [List.getD_eq_getElem?_getD, List.getElem?_take, h]
theorem Fs.tail0 {w : World} {B n m : Nat} {g : Nat} {xs : List Nat} (h : Fs w B (some ⟨g, 0, none⟩) n xs) (hm : m ≤ n) : Fs w B (some ⟨g, m, none⟩) (n - m) (xs.drop m) := by
  have h1 := Fs.tail (n := m) (m := n - m) (g := g) (off := 0) (w := w) (B := B) (xs := xs) (by rw [show m + (n - m) = n by omega]; exact h)
  rwa [Nat.zero_add] at h1
theorem Fs.cell0 {w : World} {B n g k : Nat} {xs : List Nat} (h : Fs w B (some ⟨g, 0, none⟩) n xs) (hk : k < n) : w.cell? ⟨g, k, none⟩ = some (.float .f32 (wd xs k)) ∧ g < B := by
  obtain ⟨g', off, e, hg, hc⟩ := h.2.2 (by omega)
  injection e with e
  injection e with e1 e2 _
  subst e1; subst e2
  have := hc k hk
  rw [Nat.zero_add] at this
  exact ⟨this, hg⟩
/-- an operation whose guard says yes, as one without a guard -/
theorem wpList_yes {ops : Array Oper} {rest : List Oper} {o : Oper} {a : Act} {Q : Exit → Act → World → Prop} {w : World} (hw : Region.wanted o (yielded ops a.tmps) = true)
    (h : wpList Try.prog ops Q ({ o with guard := none } :: rest) a w) : wpList Try.prog ops Q (o :: rest) a w := by
  unfold wpList at h ⊢
  rw [if_pos hw]
  rw [if_pos (by rfl)] at h
  exact h
end Go.Proofs.Ytipdgnhbmfmhnaa

/- Filters: what is known of slots, and the law of blocks. -/
set_option linter.unusedVariables false
set_option linter.unusedSimpArgs false
namespace Go.Proofs.Ytipdgnhbmfmhnaa
open Fl Go.RowKit
namespace Lk
def ownA (p : Ls) (c n0 : Nat) : Prop := (p.A = none → n0 = 0 ∧ c = 0) ∧ ∀ a, p.A = some a → ∃ g, a = ⟨g, 0, none⟩
def ploK (lo n0 : Nat) (f0 : Nat → O) (M : Mem) (b : Bool) : Kd where
  p := fun u S w => ∃ (p : Ls) (c : Nat) (m : MemN), u = .tuple #[.slice p.A p.n c, .agg #[.float .f32 m.a, .float .f32 m.b, .float .f32 m.c, .float .f32 m.d], .bool b] ∧ p.n = n0 ∧ Are p f0 ∧ FvM m M ∧ EnK lo (fe p.A p.n p.xs) S w ∧ ownA p c n0
  stable := fun u S w w' h hp => by
    obtain ⟨p, c, m, e, h1, h2, h3, hb, ho⟩ := hp
    exact ⟨p, c, m, e, h1, h2, h3, hb.keep h, ho⟩
  bx := false
/-- a list of numbers in a block of its own -/
def foK (lo n0 : Nat) (f0 : Nat → O) : Kd where
  p := fun u S w => ∃ (p : Ls) (c : Nat), u = .slice p.A p.n c ∧ p.n = n0 ∧ Are p f0 ∧ EnK lo (fe p.A p.n p.xs) S w ∧ ownA p c n0
  stable := fun u S w w' h hp => by
    obtain ⟨p, c, e, h1, h2, hb, ho⟩ := hp
    exact ⟨p, c, e, h1, h2, hb.keep h, ho⟩
  bx := false
theorem plo_of {lo n0 : Nat} {f0 : Nat → O} {M : Mem} {b : Bool} {w w' : World} {e : Ending} (hl : lo ≤ w.heap.size) (h : PLMBo n0 f0 M b w e w') : ∃ u S, e = .returned u ∧ nb u ∧ (ploK lo n0 f0 M b).p u S w' ∧ w.Since w.heap.size w' ∧ ∀ g, S g → w.heap.size ≤ g ∧ g < w'.heap.size := by
  obtain ⟨p, c, m, rfl, h1, h2, h3, h4, h5, h6, h7⟩ := h
  have hg := h2.toE
  exact ⟨_, (fe p.A p.n p.xs).S, rfl, trivial, ⟨p, c, m, rfl, h1, h3, h4, EnK.of hg hl, h6, h7⟩, h5, hg.2.2⟩
/-- a float -/
def yK (Y : O) : Kd where
  p := fun u S w => ∃ q : Nat, u = .float .f32 q ∧ Hid (Fv .f32 q Y)
  stable := fun u S w w' h hp => hp
  bx := false
/-- a float, a memory and a yes or no -/
def ymbK (Y : O) (M : Mem) (b : Bool) : Kd where
  p := fun u S w => ∃ (q : Nat) (m : MemN), u = .tuple #[.float .f32 q, .agg #[.float .f32 m.a, .float .f32 m.b, .float .f32 m.c, .float .f32 m.d], .bool b] ∧ Hid (Fv .f32 q Y) ∧ FvM m M
  stable := fun u S w w' h hp => hp
  bx := false
theorem ymb_of {Y : O} {M : Mem} {b : Bool} {w w' : World} {e : Ending} (h : FSPost w b Y M e w') : ∃ u S, e = .returned u ∧ nb u ∧ (ymbK Y M b).p u S w' ∧ w.Since w.heap.size w' ∧ ∀ g, S g → w.heap.size ≤ g ∧ g < w'.heap.size := by
  obtain ⟨y, m, rfl, h1, h2, h3⟩ := h
  exact ⟨_, fun _ => False, rfl, trivial, ⟨y, m, rfl, h1, h2⟩, h3, fun g h => h.elim⟩
section
variable {P : Program} {ops : Array Oper} {w0 : World} {Q : Fa → Prop} {a : Act} {κ : Nat → Option Kd} {o : Oper} {rest : List Oper} {d : Nat}
/-- a cell is loaded that lies before the statement's own memory -/
theorem sLoad1 (hg : o.guard = none) (hd : o.dst = some d) (hk : κ d = none) (ho : avoidK ⟨a, κ⟩ o = true) (ty : TypeId) (x : Operand) (hop : o.op = .load ty x) (p : Addr) (hx : a.eval x = .pointer (some p)) (val : Value)
    (hS : ∀ v, w0.Since w0.heap.size v → (loadVar ty p).run P v = .ok val v)
    (hK : wpK P ops w0 Q rest ⟨a.put (some d) val, κ⟩) : wpK P ops w0 Q (o :: rest) ⟨a, κ⟩ :=
  sTold hg hd hk ho _ (fun w hw _ => ⟨w, by
    unfold execOp
    simp only [hop, hx, Instr.loadAt, Instr.sureAddr, Sem.run_bind, Sem.run_pure, Result.andThen_ok, hS w hw], World.Since.refl _ _⟩) hK
end
theorem load_f32 {w : World} {p : Addr} {x : Nat} (h : w.cell? p = some (.float .f32 x)) : (loadVar 24 p).run Try.prog w = .ok (.float .f32 x) w := by
  simp [loadVar, go_sem, h]
end Lk
theorem Fl.On.of_since {g : Nat} {w w' : World} (h : w.Since w.heap.size w') (hg : g < w.heap.size) : On g w w' := ⟨since_mono h (by omega), fun b hb _ => h.block b hb⟩
theorem PLMBo.like {n0 : Nat} {f0 f1 : Nat → O} {M : Mem} {b : Bool} {w w' : World} {e : Ending} (h : PLMBo n0 f0 M b w e w') (hl : ∀ j, j < n0 → f0 j = f1 j) : PLMBo n0 f1 M b w e w' := by
  obtain ⟨p, c, m, h1, h2, h3, h4, h5⟩ := h
  exact ⟨p, c, m, h1, h2, h3, fun j hj => (h4 j hj).trans (hl j (h2 ▸ hj)), h5⟩
theorem implFS_ok (form : Nat) (hform : form ≤ 2) (f : FilN) (fu : Bool) (m : MemN) (x : Nat) (F : Fil) (M : Mem) (X : O) (w : World) (hF : FvF f F) (hM : FvM m M) (hx : Hid (Fv .f32 x X)) :
    Calls Try.prog 10 #[f.val, .int .i64 (form : Int), .bool fu, m.val, .float .f32 x] w (FSPost w true (stepY form fu F M X) (stepM form fu F M X)) := by
  match form, hform with
  | 0, _ => exact implFS_Dir f fu m x F M X w hF hM hx
  | 1, _ => exact implFS_Tur f fu m x F M X w hF hM hx
  | 2, _ => exact implFS_Can f fu m x F M X w hF hM hx
theorem sameM {m n : MemN} {M : Mem} (h : FvM m M) (k : FvM n M) : sameB m.a n.a = true ∧ sameB m.b n.b = true ∧ sameB m.c n.c = true ∧ sameB m.d n.d = true := by
  unfold sameB
  refine ⟨decide_eq_true ?_, decide_eq_true ?_, decide_eq_true ?_, decide_eq_true ?_⟩
  · rw [h.a.out.2, k.a.out.2]
  · rw [h.b.out.2, k.b.out.2]
  · rw [h.c.out.2, k.c.out.2]
  · rw [h.d.out.2, k.d.out.2]
theorem FvM.self {m : MemN} {M : Mem} (h : FvM m M) : FvM m (ofM m) := ⟨Lib.hid ⟨h.a.out.1, rfl⟩, Lib.hid ⟨h.b.out.1, rfl⟩, Lib.hid ⟨h.c.out.1, rfl⟩, Lib.hid ⟨h.d.out.1, rfl⟩⟩
/-- what is flushed is not subnormal -/
theorem sub_flushed (b : Nat) : subB (flushN b) = false := by
  unfold subB flushN
  split
  · have h : zeroB (b / 2147483648 * 2147483648) = true := by unfold zeroB; simp
    rw [h]; rfl
  · next h => rw [decide_eq_false h]; simp
theorem sub_flO {q : Nat} {V : O} (h : Hid (Fv .f32 q (flO true V))) : subB q = false := by
  have h2 := h.out.2
  cases hv : ab .f32 q with
  | none =>
    have : ¬ (q % 2147483648 < 8388608) := by
      intro h3
      rw [ab32, if_neg (by omega)] at hv; cases hv
    unfold subB; rw [decide_eq_false this]; simp
  | some y =>
    obtain rfl := ab_some hv
    rw [hv] at h2
    unfold flO at h2
    cases V with
    | none => simp at h2
    | some v =>
      simp only [if_true, Option.map_some] at h2
      injection h2 with h2
      rw [h2]; exact sub_flushed v
theorem stepY_flushed (form : Nat) (F : Fil) (M : Mem) (X : O) : ∃ V, stepY form true F M X = flO true V := by
  unfold stepY
  split
  · exact ⟨_, rfl⟩
  · exact ⟨_, rfl⟩
  · exact ⟨_, rfl⟩
end Go.Proofs.Ytipdgnhbmfmhnaa

/- The size of a number of 32 bits, made wide, is the size of what is made wide. -/
set_option linter.unusedVariables false
set_option linter.unusedSimpArgs false
namespace Go.Proofs.Ytipdgnhbmfmhnaa
namespace Fl
open Ieee

theorem cut_neg (neg : Bool) (n d : Nat) : Toward.even.cut neg n d = Toward.even.cut false n d := rfl
theorem nearest_neg (f : Format) (neg : Bool) (mag : Nat) (place : Int) : ∃ r, r ≤ f.infRung ∧ f.nearest neg mag place = f.word neg r ∧ f.nearest false mag place = f.word false r := by
  unfold Format.nearest
  dsimp only
  by_cases hm : mag = 0
  · rw [if_pos hm, if_pos hm]
    exact ⟨0, Nat.zero_le _, rfl, rfl⟩
  · rw [if_neg hm, if_neg hm]
    exact ⟨_, Nat.min_le_right .., rfl, rfl⟩
theorem word_false (f : Format) (r : Nat) : f.word false r = r := by unfold Format.word; simp

theorem read_size (b : Nat) : (∀ g m e, FloatKind.f32.decode b = .number g m e → FloatKind.f32.decode (b % 2147483648) = .number false m e) ∧ (∀ g, FloatKind.f32.decode b = .infinity g → FloatKind.f32.decode (b % 2147483648) = .infinity false) := by
  have hs : Format.signWeight { exponentBits := 8, fractionBits := 23 } = 2147483648 := by decide
  unfold FloatKind.decode FloatKind.format single Format.read
  dsimp only
  rw [hs, Nat.mod_mod]
  have h0 : b % 2147483648 / 2147483648 = 0 := Nat.div_eq_of_lt (Nat.mod_lt _ (by omega))
  refine ⟨fun g m e h => ?_, fun g h => ?_⟩
  all_goals
    rw [h0]
    by_cases c1 : b % 2147483648 < Format.binade { exponentBits := 8, fractionBits := 23 }
    · simp only [if_pos c1] at h ⊢
      first | (cases h; rfl) | cases h
    · simp only [if_neg c1] at h ⊢
      by_cases c2 : b % 2147483648 < Format.infRung { exponentBits := 8, fractionBits := 23 }
      · simp only [if_pos c2] at h ⊢
        first | (cases h; rfl) | cases h
      · simp only [if_neg c2] at h ⊢
        by_cases c3 : b % 2147483648 = Format.infRung { exponentBits := 8, fractionBits := 23 }
        · simp only [if_pos c3] at h ⊢
          first | (cases h; rfl) | cases h
        · simp only [if_neg c3] at h ⊢
          cases h

/-- the sign struck behind the widening, or ahead of it -/
theorem wide_size {b x : Nat} (hx : Fv .f64 x (wide (ab .f32 b))) : Fv .f64 (x % 9223372036854775808) (wide (ab .f32 (b % 2147483648))) := by
  obtain ⟨h1, h2⟩ := hx
  have h1' : x < 18446744073709551616 := h1
  refine ⟨by rw [w64]; omega, ?_⟩
  cases hb : ab .f32 b with
  | none =>
    rw [hb] at h2
    have e : ab .f32 (b % 2147483648) = none := by
      rw [ab32] at hb ⊢
      rw [Nat.mod_mod]
      split at hb
      · rw [if_pos ‹_›]
      · cases hb
    rw [e]
    have h3 : ab .f64 x = none := h2
    show ab .f64 (x % 9223372036854775808) = none
    rw [ab64] at h3 ⊢
    rw [Nat.mod_mod]
    split at h3
    · rw [if_pos ‹_›]
    · cases h3
  | some c =>
    rw [ab_some hb] at hb
    rw [hb] at h2
    have e : ab .f32 (b % 2147483648) = some (b % 2147483648) := by
      have hb2 := hb
      rw [ab32] at hb2 ⊢
      rw [Nat.mod_mod]
      split at hb2
      · cases hb2
      · rw [if_neg ‹_›]
    rw [e]
    have h3 : ab .f64 x = some (FloatKind.f64.encode (FloatKind.f32.decode b)) := h2
    show ab .f64 (x % 9223372036854775808) = some (FloatKind.f64.encode (FloatKind.f32.decode (b % 2147483648)))
    have hxe := ab_some h3
    rw [← hxe]
    obtain ⟨hr1, hr2⟩ := read_size b
    have hn := read_nan (k := .f32) (b := b)
    rw [hb] at hn
    cases hd : FloatKind.f32.decode b with
    | nan g f =>
      have h9 : FloatKind.f32.format.read b = .nan g f := hd
      rw [h9] at hn
      simp [Datum.isNaN] at hn
    | infinity g =>
      rw [hr2 g hd]
      show ab .f64 (FloatKind.f64.format.word g FloatKind.f64.format.infRung % 9223372036854775808) = some (FloatKind.f64.format.word false FloatKind.f64.format.infRung)
      rw [← sw64, word_rung_mod _ _ (Nat.le_refl _), word_false]
      have := ab_word .f64 false (Nat.le_refl FloatKind.f64.format.infRung)
      rwa [word_false] at this
    | number g m e =>
      rw [hr1 g m e hd]
      show ab .f64 (FloatKind.f64.format.nearest g m e % 9223372036854775808) = some (FloatKind.f64.format.nearest false m e)
      obtain ⟨r, hr, e1, e2⟩ := nearest_neg FloatKind.f64.format g m e
      rw [e1, e2, ← sw64, word_rung_mod _ _ hr, word_false]
      have := ab_word .f64 false hr
      rwa [word_false] at this
end Fl
end Go.Proofs.Ytipdgnhbmfmhnaa

/- IsStable, walked. -/
set_option linter.unusedVariables false
set_option linter.unusedSimpArgs false
namespace Go.Proofs.Ytipdgnhbmfmhnaa
open Fl Go.RowKit
theorem bits_clear_u64 {p : Nat} (hp : p < 18446744073709551616) : bits .andNot .u64 (p : Int) 9223372036854775808 = ((p % 9223372036854775808 : Nat) : Int) := by
  have h := u64_andNot_nat p 9223372036854775808 hp (by decide)
  have e : ((9223372036854775808 : Nat) : Int) = 9223372036854775808 := rfl
  rw [e] at h
  rw [h]
  have e2 : (18446744073709551615 - 9223372036854775808 : Nat) = 2 ^ 63 - 1 := rfl
  rw [e2, Nat.and_two_pow_sub_one_eq_mod]
namespace Lo
def isC : BinOp → Bool
  | .lss | .leq | .gtr | .geq => true
  | _ => false
def cmpB (op : BinOp) (c : Option Ordering) : Bool :=
  match op with
  | .lss => c == some .lt
  | .leq => c == some .lt || c == some .eq
  | .gtr => c == some .gt
  | .geq => c == some .gt || c == some .eq
  | _ => false
/-- a comparison of two floats of the statement's own -/
theorem wpL_cmp {P : Program} {ops : Array Oper} {C : World → Prop} {ds : List Nat} {Q : Act → Prop} {a : Act} {o : Oper} {rest : List Oper} {op : BinOp} (hg : o.guard = none) (t t2 : TypeId) (x y : Operand) (hop : o.op = Op.binOp op t x y t2) (hf : isC op = true) (k : FloatKind) (p q : Nat) (u v : Option Nat)
    (hx : a.eval x = .float k p) (hy : a.eval y = .float k q) (hp : RowKit.Hid (Fv k p u)) (hq : RowKit.Hid (Fv k q v))
    (hK : wpL P ops C (fun i => ds.contains i) Q rest (a.put o.dst (.bool (cmpB op (ordO k u v))))) : wpL P ops C (fun i => ds.contains i) Q (o :: rest) a := by
  refine wpL_of_loose hg (fun b hab w2 hw => ?_) hK
  obtain ⟨p2, e1, hp2⟩ := VR_fl hp (by rw [← hx]; exact eval_AR hab x)
  obtain ⟨q2, e2, hq2⟩ := VR_fl hq (by rw [← hy]; exact eval_AR hab y)
  have e : (execOp b.eval o).run P w2 = .ok (.value (.bool (cmpB op (ordO k u v)))) w2 := by
    have ho := order_ab k p2 q2
    rw [hp2.2, hq2.2] at ho
    cases op <;> simp only [isC] at hf <;> first | (cases hf; done) | (simp [execOp, hop, e1, e2, eqGuard, binOp, Op.floatCmp, ho, cmpB, Result.andThen])
  rw [e]
  exact ⟨hw, okv.refl ..⟩
end Lo

def stT (a1 a2 : Nat) : Bool := ordO .f64 (wide (ab .f32 a2)) (opO .sub .f64 (wide (ab .f32 (a1 % 2147483648))) (some 4607182418800017408)) == some .gt
theorem fvOne64 : Hid (Fv .f64 4607182418800017408 (some 4607182418800017408)) := Lib.hid ⟨by decide, by rw [ab64]; rfl⟩
theorem implSize2G (b : Nat) (w : World) (hb : b < 4294967296) :
    Calls Try.prog 16 #[.float .f32 b] w fun e w' => e = .returned (.float .f32 (b % 2147483648)) ∧ w' = w := by
  go_enter Try.func16, Try.ntmps16
  go_wp2_with (first | (go_at_call 24; refine (patternOf_any _ _).mono ?_; rintro e w' ⟨rfl, rfl⟩) | (go_at_call 25; refine (withoutSign_any _ _ hb).mono ?_; rintro e w' ⟨rfl, rfl⟩) | (go_at_call 26; refine (number_any (b % 2147483648) _).mono ?_; rintro e w' ⟨rfl, rfl⟩))
  go_ret
  exact ⟨rfl, rfl⟩

theorem cmp_flip_nat (a b : Nat) : (some (compare a b) == some Ordering.lt) = (some (compare b a) == some Ordering.gt) := by
  rw [Std.OrientedCmp.eq_swap (cmp := compare) (a := a) (b := b)]
  cases compare b a <;> rfl
theorem cmp_flip_int (a b : Int) : (some (compare a b) == some Ordering.lt) = (some (compare b a) == some Ordering.gt) := by
  rw [Std.OrientedCmp.eq_swap (cmp := compare) (a := a) (b := b)]
  cases compare b a <;> rfl
theorem datum_flip (d e : Ieee.Datum) : (d.order e == some Ordering.lt) = (e.order d == some Ordering.gt) := by
  cases d with
  | nan s f => cases e <;> rfl
  | infinity s => cases e with
    | nan t g => rfl
    | infinity t => exact cmp_flip_nat _ _
    | number t n j => cases s <;> rfl
  | number s m i => cases e with
    | nan t g => rfl
    | infinity t => cases t <;> rfl
    | number t n j =>
      unfold Ieee.Datum.order
      dsimp only
      rw [show min j i = min i j from by omega]
      exact cmp_flip_int _ _
theorem ord_flip (k : FloatKind) (u v : Option Nat) : (ordO k u v == some Ordering.lt) = (ordO k v u == some Ordering.gt) := by
  cases u with
  | none => cases v <;> rfl
  | some x => cases v with
    | none => rfl
    | some y => exact datum_flip _ _

set_option maxHeartbeats 4000000 in
set_option maxRecDepth 100000 in
theorem implIS_any (f : FilN) (w : World) (hF : FvF f (ofF f)) (c1 c2 : Bool) (h1 : (FloatKind.f32.format.order f.a2 3212836864 == some .gt) = c1) (h2 : (FloatKind.f32.format.order f.a2 1065353216 == some .lt) = c2) :
    Calls Try.prog 9 #[f.val] w fun e w' => e = .returned (.bool (c1 && c2 && stT f.a1 f.a2)) ∧ w.Since w.heap.size w' := by
  obtain ⟨b0, b1, b2, a1, a2⟩ := f
  obtain ⟨f0, f1, f2, f3, f4⟩ := hF
  simp only [ofF] at f0 f1 f2 f3 f4 h1 h2
  have g1 := fvOne64
  have ha1 : a1 < 4294967296 := f3.out.1
  have fs : Hid (Fv .f32 (a1 % 2147483648) (ab .f32 (a1 % 2147483648))) := Fl.fvs (by omega)
  unfold FilN.val
  cases c1 <;> cases c2
  · go_enter Try.func9, Try.ntmps9
    go_wp2
    go_ret
    exact ⟨rfl, by (repeat (first | (with_reducible refine Fl.sinDrew ?_) | (with_reducible refine World.Since.drew ?_) | (with_reducible refine Fl.sinSet ?_ ?_; rotate_left) | (with_reducible refine Fl.sinAlloc ?_ ?_; rotate_left) | with_reducible exact World.Since.refl _ _ | with_reducible assumption | (with_reducible refine Fl.sinStep (by with_reducible assumption) ?_))); all_goals (first | omega | (simp; done) | (simp; omega) | (simp [go_sem]; done) | (simp [go_sem]; omega))⟩
  · go_enter Try.func9, Try.ntmps9
    go_wp2
    go_ret
    exact ⟨rfl, by (repeat (first | (with_reducible refine Fl.sinDrew ?_) | (with_reducible refine World.Since.drew ?_) | (with_reducible refine Fl.sinSet ?_ ?_; rotate_left) | (with_reducible refine Fl.sinAlloc ?_ ?_; rotate_left) | with_reducible exact World.Since.refl _ _ | with_reducible assumption | (with_reducible refine Fl.sinStep (by with_reducible assumption) ?_))); all_goals (first | omega | (simp; done) | (simp; omega) | (simp [go_sem]; done) | (simp [go_sem]; omega))⟩
  · go_enter Try.func9, Try.ntmps9
    go_wp2
    go_ret
    exact ⟨rfl, by (repeat (first | (with_reducible refine Fl.sinDrew ?_) | (with_reducible refine World.Since.drew ?_) | (with_reducible refine Fl.sinSet ?_ ?_; rotate_left) | (with_reducible refine Fl.sinAlloc ?_ ?_; rotate_left) | with_reducible exact World.Since.refl _ _ | with_reducible assumption | (with_reducible refine Fl.sinStep (by with_reducible assumption) ?_))); all_goals (first | omega | (simp; done) | (simp; omega) | (simp [go_sem]; done) | (simp [go_sem]; omega))⟩
  · go_enter Try.func9, Try.ntmps9
    go_wp2
    refine Lo.wp_loose_all [15,16,19] (by kernel_rfl) (by kernel_rfl) ?_
    repeat (first
      | (refine Lo.wpL_cmp rfl _ _ _ _ rfl rfl _ _ _ _ _ rfl rfl (by assumption) (by assumption) ?_; simp only [Act.put, List.setIfInBounds_toArray, List.set_cons_succ, List.set_cons_zero])
      | (refine Lo.wpL_move rfl _ (.inl rfl) (by decide) ?_; simp only [Act.put, List.setIfInBounds_toArray, List.set_cons_succ, List.set_cons_zero])
      | (refine Lo.wpL_move rfl _ (.inr rfl) (by decide) ?_; simp only [Act.put, List.setIfInBounds_toArray, List.set_cons_succ, List.set_cons_zero])
      | (refine Lo.wpL_fop rfl _ _ _ _ rfl rfl (by decide) _ _ _ _ _ rfl rfl (by assumption) (by assumption) ?_; intro rr hrr; simp only [Act.put, List.setIfInBounds_toArray, List.set_cons_succ, List.set_cons_zero])
      | (refine Lo.wpL_wide rfl _ _ _ rfl (by decide) _ _ rfl (by kernel_rfl) (by kernel_rfl) (by assumption) ?_; intro rr hrr; simp only [Act.put, List.setIfInBounds_toArray, List.set_cons_succ, List.set_cons_zero])
      | (refine Lo.wpL_quiet rfl (by decide) (fun K hK => ?_); go_big_quiet_op; first | (refine hK _ ?_; clear hK K) | (apply Exists.intro; refine ⟨fun _ => ?_, hK _ ?_⟩; (first | (go_at_call 16; exact (implSize2G a1 _ ha1).mono fun _ _ ⟨h1, h2⟩ => ⟨h1, _, h2⟩)); clear hK K)))
    refine Lo.wpL_nil ?_
    refine Lo.after_fl rfl (by assumption) ?_; intro q15 h15; simp only [Act.put, List.setIfInBounds_toArray, List.set_cons_succ, List.set_cons_zero]
    refine Lo.after_fl rfl (by assumption) ?_; intro q16 h16; simp only [Act.put, List.setIfInBounds_toArray, List.set_cons_succ, List.set_cons_zero]
    refine Lo.after_fl rfl (by assumption) ?_; intro q19 h19; simp only [Act.put, List.setIfInBounds_toArray, List.set_cons_succ, List.set_cons_zero]
    refine Lo.after_nil ?_; intro nq
    go_wp2
    go_ret
    exact ⟨ret_bool (by simp only [Bool.true_and]; unfold stT; exact ord_flip _ _ _), by (repeat (first | (with_reducible refine Fl.sinDrew ?_) | (with_reducible refine World.Since.drew ?_) | (with_reducible refine Fl.sinSet ?_ ?_; rotate_left) | (with_reducible refine Fl.sinAlloc ?_ ?_; rotate_left) | with_reducible exact World.Since.refl _ _ | with_reducible assumption | (with_reducible refine Fl.sinStep (by with_reducible assumption) ?_))); all_goals (first | omega | (simp; done) | (simp; omega) | (simp [go_sem]; done) | (simp [go_sem]; omega))⟩

end Go.Proofs.Ytipdgnhbmfmhnaa

/- The law of filters that come to rest. -/
set_option linter.unusedVariables false
set_option linter.unusedSimpArgs false
namespace Go.Proofs.Ytipdgnhbmfmhnaa
open Fl Go.RowKit
theorem fs_cellR {w : World} {B n g k : Nat} {xs : List Nat} (h : Fs w B (some ⟨g, 0, none⟩) n xs) (hk : k < n) : w.cell? ⟨g, k, none⟩ = some (.float .f32 (wd xs k)) ∧ g < B := by
  obtain ⟨g', off, e, hg, hc⟩ := h.2.2 (by omega)
  injection e with e
  injection e with e1 e2 _
  subst e1; subst e2
  have := hc k hk
  rw [Nat.zero_add] at this
  exact ⟨this, hg⟩
theorem pl_sz {X : O} (h : Pl X) : Sz 1092000000 X := by
  obtain ⟨i, hi, rfl⟩ := h
  exact ⟨plW i, rfl, by have := (pl_small i hi).2; rw [rung32]; omega⟩
set_option maxRecDepth 100000 in
theorem rs_stab : ∀ k : Nat, k < 16 → stT (raW k) 0 = true := by decide +kernel
theorem rs_stable {k : Nat} (hk : k < 16) {f : FilN} (h : FvF f (rsF k)) (w : World) : Calls Try.prog 9 #[f.val] w fun e w' => e = .returned (.bool true) ∧ w.Since w.heap.size w' := by
  have e1 : raW k = f.a1 := ab_some h.a1.out.2
  have e2 : 0 = f.a2 := ab_some h.a2.out.2
  have hF : FvF f (ofF f) := ⟨Lib.hid ⟨h.b0.out.1, rfl⟩, Lib.hid ⟨h.b1.out.1, rfl⟩, Lib.hid ⟨h.b2.out.1, rfl⟩, Lib.hid ⟨h.a1.out.1, rfl⟩, Lib.hid ⟨h.a2.out.1, rfl⟩⟩
  refine (implIS_any f w hF true true (by rw [← e2]; decide) (by rw [← e2]; decide)).mono fun e w' ⟨h1, h2⟩ => ⟨?_, h2⟩
  rw [h1, ← e1, ← e2, rs_stab k hk]; rfl
set_option maxHeartbeats 32000000 in
set_option maxRecDepth 100000 in
theorem lawRest_any (A : Option Addr) (n c : Nat) (xs : List Int) (B : Option Addr) (m d : Nat) (ys : List Int) (w : World) (hA : Bs w w.heap.size A n xs) (hB : Bs w w.heap.size B m ys) :
    Calls Try.prog 3 #[.slice A n c, .slice B m d] w fun e w' => e = .returned (.bool true) ∧ w.Since w.heap.size w' := by
  have HA := Lib.hid hA; have HB := Lib.hid hB; clear hA hB
  cases hl : (decide ((48 : Int) < n) || decide ((48 : Int) < m))
  case true =>
    go_enter Try.func3, Try.ntmps3
    go_wp2_with fail
    refine (r8Long_any A B n c m d true w hl).mono ?_
    rintro e w1 ⟨rfl, hs⟩
    have S1 := Lib.hid hs; clear hs
    go_wp2
    go_ret
    exact ⟨rfl, S1.out⟩
  case false =>
    have hnm : n ≤ 48 ∧ m ≤ 48 := by simp only [Bool.or_eq_false_iff, decide_eq_false_iff_not] at hl; omega
    go_enter Try.func3, Try.ntmps3
    go_wp2_with fail
    refine (r8Long_any A B n c m d false w hl).mono ?_
    rintro e w1 ⟨rfl, hs⟩
    have S1 := Lib.hid hs; clear hs hl
    go_wp2_with fail
    refine (r8At_any A n c xs 0 16 w1 ((HA.out.since S1.out (Nat.le_refl _)).more S1.out.size) (by omega) (by omega)).mono ?_
    rintro e w2 ⟨v, rfl, v0, v1, hs⟩
    have S2 := Lib.hid (since_step S1.out hs); clear hs S1
    have hv1 : v < 16 := v1 (by omega)
    obtain ⟨k, rfl⟩ : ∃ k : Nat, v = (k : Int) := ⟨v.toNat, by omega⟩
    have hk : k < 16 := by omega
    clear v0 v1 hv1
    have f1 := fI_fv (1 + (k : Int))
    have f3 : Hid (Fv .f32 1098907648 (some 1098907648)) := fvc (by decide) (by decide)
    go_wp2_with (first | (with_reducible_and_instances refine Lo.wpList_fo _ rfl .quo _ _ _ _ rfl _ _ _ _ _ rfl rfl rfl f1 f3 ?_; intro p1 m1 hp1) | fail)
    rw [(rs_tab k hk).1] at hp1
    clear f1 f3
    obtain ⟨v3, hv3⟩ : ∃ v, v = w2.drewN m1 := ⟨_, rfl⟩
    have S3 := Lib.hid (show w.Since w.heap.size v3 by rw [hv3]; exact since_drewN S2.out _)
    rw [← hv3]
    clear hv3 S2
    refine (r8At_any A n c xs 1 3 v3 ((HA.out.since S3.out (Nat.le_refl _)).more S3.out.size) (by omega) (by omega)).mono ?_
    rintro e w4 ⟨v, rfl, v0, v1, hs⟩
    have S4 := Lib.hid (since_step S3.out hs); clear hs S3
    have hv1 : v < 3 := v1 (by omega)
    obtain ⟨fo, rfl⟩ : ∃ fo : Nat, v = (fo : Int) := ⟨v.toNat, by omega⟩
    have hfo : Hid (fo ≤ 2) := Lib.hid (by omega)
    clear v0 v1 hv1
    go_wp2_with fail
    refine (plainsW_any B m d ys 4 w4 ((HB.out.since S4.out (Nat.le_refl _)).more S4.out.size) (by omega) (by omega)).mono ?_
    rintro e w5 ⟨g, cp, us, rfl, hcp, hg, hpl, hs⟩
    have G5 := Lib.hid hg.read
    have S5 := Lib.hid (since_step S4.out hs)
    have HU := Lib.hid hpl.out
    clear hs hg S4 hpl
    go_wp2_with fail
    obtain ⟨k0, gl⟩ := fs_cellR G5.out (show 0 < 4 by decide)
    have k1 := (fs_cellR G5.out (show 1 < 4 by decide)).1
    have k2 := (fs_cellR G5.out (show 2 < 4 by decide)).1
    have k3 := (fs_cellR G5.out (show 3 < 4 by decide)).1
    as_aux_lemma =>
      go_region
      generalize hW : World.drew _ = W6
      obtain ⟨bm, hbm⟩ : ∃ q, Hid (q = w5.heap.size) := ⟨_, Lib.hid rfl⟩
      have M6 : Hid (MemB 29 W6 bm ⟨wd us 0, wd us 1, wd us 2, wd us 3⟩) := Lib.hid (by rw [← hW, hbm.out]; exact MemB.new _ _ _ _ _ _)
      have S6 : Hid (w.Since w.heap.size W6) := Lib.hid (by rw [← hW]; exact (S5.out.alloc S5.out.size _).drew)
      clear hW k0 k1 k2 k3 gl
      rw [← hbm.out]; clear hbm
      obtain ⟨M, hM⟩ : ∃ M : Mem, Hid (M = ⟨ab .f32 (wd us 0), ab .f32 (wd us 1), ab .f32 (wd us 2), ab .f32 (wd us 3)⟩) := ⟨_, Lib.hid rfl⟩
      have FM : Hid (FvM ⟨wd us 0, wd us 1, wd us 2, wd us 3⟩ M) := Lib.hid (by
        have := G5.out.2.1
        rw [hM.out]
        exact ⟨Lib.hid ⟨this.at_ 0, rfl⟩, Lib.hid ⟨this.at_ 1, rfl⟩, Lib.hid ⟨this.at_ 2, rfl⟩, Lib.hid ⟨this.at_ 3, rfl⟩⟩)
      have RA : Hid (stO (rstM fo (rsF k) M 1510) = true) := Lib.hid (by
        rw [hM.out]
        exact rest_all hfo.out hk (pl_sz (HU.out 0 (by decide))) (pl_sz (HU.out 1 (by decide))) (pl_sz (HU.out 2 (by decide))) (pl_sz (HU.out 3 (by decide))))
      obtain ⟨z, b, hr⟩ := rest_is fo (rsF k) M 10000
      have HR := Lib.hid hr
      rcases hr with ⟨nn, hn1, hn2, hn3, rfl, rfl⟩ | ⟨hno, _, _⟩
      · have N2 := Lib.hid hn2; have N3 := Lib.hid hn3
        clear hn2 hn3 RA G5 HU S5 HB
        go_wp2_with fail
        refine (implSmooth_any p1 _ W6 hp1).mono ?_
        rintro e w7 ⟨b0, b1, b2, a1, a2, rfl, hF, hs⟩
        rw [(rs_tab k hk).2.1] at hF
        have FF : Hid (FvF ⟨b0, b1, b2, a1, a2⟩ (rsF k)) := Lib.hid hF
        have S7 := Lib.hid (since_step S6.out hs); have M7 := Lib.hid (M6.out.since hs M6.out.lt)
        clear hs hF S6 M6 hp1
        have g0 := M7.out.c0; have g1 := M7.out.c1; have g2 := M7.out.c2; have g3 := M7.out.c3; have gl := M7.out.lt
        simp only at g0 g1 g2 g3
        go_wp2_with fail
        generalize hW : World.alloc w7 _ = W7
        obtain ⟨bf, hbf⟩ : ∃ q, Hid (q = w7.heap.size) := ⟨_, Lib.hid rfl⟩
        have hs : w7.Since w7.heap.size W7 := by rw [← hW]; exact (World.Since.refl _ _).alloc (Nat.le_refl _) _
        have B8 : Hid (FilB 31 W7 bf ⟨b0, b1, b2, a1, a2⟩) := Lib.hid (by rw [← hW, hbf.out]; exact FilB.new _ _ _ _ _ _ _)
        have S8 := Lib.hid (since_step S7.out hs); have M8 := Lib.hid (M7.out.since hs M7.out.lt)
        rw [← hbf.out]
        clear hW hs hbf S7 M7 g0 g1 g2 g3 gl
        have KR := Lib.hid (show Calls Try.prog 8 #[.agg #[.float .f32 b0, .float .f32 b1, .float .f32 b2, .float .f32 a1, .float .f32 a2], .int .i64 (fo : Int), .agg #[.float .f32 (wd us 0), .float .f32 (wd us 1), .float .f32 (wd us 2), .float .f32 (wd us 3)], .int .i64 10000] W7 fun e w' => e = .returned (.tuple #[.int .i64 (nn : Int), .bool true]) ∧ W7.Since W7.heap.size w' from
          implRest_ok fo hfo.out ⟨b0, b1, b2, a1, a2⟩ ⟨wd us 0, wd us 1, wd us 2, wd us 3⟩ (rsF k) M 10000 (nn : Int) true W7 FF.out FM.out (by decide) HR.out)
        refine KR.out.mono ?_
        rintro e w9 ⟨rfl, hs⟩
        have S9 := Lib.hid (since_step S8.out hs); have M9 := Lib.hid (M8.out.since hs M8.out.lt); have B9 := Lib.hid (B8.out.since hs B8.out.lt)
        clear hs S8 M8 B8 KR HR
        as_aux_lemma =>
          have f0 := B9.out.c0; have f1 := B9.out.c1; have f2 := B9.out.c2; have f3 := B9.out.c3; have f4 := B9.out.c4; have fl := B9.out.lt
          simp only at f0 f1 f2 f3 f4
          go_wp2_with fail
          refine (rs_stable hk FF.out w9).mono ?_
          rintro e w10 ⟨rfl, hs⟩
          have S10 := Lib.hid (since_step S9.out hs); have M10 := Lib.hid (M9.out.since hs M9.out.lt); have B10 := Lib.hid (B9.out.since hs B9.out.lt)
          clear hs S9 M9 B9 f0 f1 f2 f3 f4 fl
          have g0 := M10.out.c0; have g1 := M10.out.c1; have g2 := M10.out.c2; have g3 := M10.out.c3; have gl := M10.out.lt
          simp only at g0 g1 g2 g3
          go_wp2_with fail
          generalize hW : World.alloc w10 _ = We
          obtain ⟨bn, hbn⟩ : ∃ q, Hid (q = w10.heap.size) := ⟨_, Lib.hid rfl⟩
          have NB : Hid (MemB 29 We bn ⟨wd us 0, wd us 1, wd us 2, wd us 3⟩) := Lib.hid (by rw [← hW, hbn.out]; exact MemB.new _ _ _ _ _ _)
          have hs : w10.Since w10.heap.size We := by rw [← hW]; exact (World.Since.refl _ _).alloc (Nat.le_refl _) _
          have S11 := Lib.hid (since_step S10.out hs); have FB := Lib.hid (B10.out.since hs B10.out.lt)
          have LW : Hid (w.heap.size ≤ bn) := Lib.hid (by rw [hbn.out]; exact S10.out.size)
          have hfn : Hid (bf ≠ bn) := Lib.hid (by have := B10.out.lt; rw [hbn.out]; omega)
          rw [← hbn.out]
          clear hW hs hbn S10 M10 B10 g0 g1 g2 g3 gl
          go_wp2_with fail
          go_loopw [13] (fun i wr => ∃ (j : Nat) (q : MemN), j ≤ nn ∧ i = .int .i64 (j : Int) ∧ MemB 29 wr bn q ∧ FvM q (rstM fo (rsF k) M j) ∧ On bn We wr) (fun i _ => nn - (intOf i).toNat)
          case atStart => exact ⟨0, _, Nat.zero_le _, rfl, NB.out, FM.out, On.refl _ _⟩
          case round =>
            obtain ⟨j, ⟨qa, qb, qc, qd⟩, hj, rfl, hb, hq, ho⟩ := hrel
            have NR := Lib.hid hb; have HQ := Lib.hid hq; have OR := Lib.hid ho
            clear hb hq ho
            have FR := Lib.hid (FB.out.on OR.out hfn.out)
            have nl := NR.out.lt; have fl := FR.out.lt
            have r0 := NR.out.c0; have r1 := NR.out.c1; have r2 := NR.out.c2; have r3 := NR.out.c3
            have ea := eq_fv HQ.out.a fv0; have eb := eq_fv HQ.out.b fv0; have ec := eq_fv HQ.out.c fv0; have ed := eq_fv HQ.out.d fv0
            by_cases hlt : j < nn
            · have hst := N2.out j hlt
              unfold stO at hst
              rw [← ea, ← eb, ← ec, ← ed] at hst
              clear ea eb ec ed
              simp only at hst r0 r1 r2 r3
              have KS := Lib.hid fun (v : World) => show Calls Try.prog 10 #[.agg #[.float .f32 b0, .float .f32 b1, .float .f32 b2, .float .f32 a1, .float .f32 a2], .int .i64 (fo : Int), .bool true, .agg #[.float .f32 qa, .float .f32 qb, .float .f32 qc, .float .f32 qd], .float .f32 0] v (FSPost v true (stepY fo true (rsF k) (rstM fo (rsF k) M j) (some 0)) (stepM fo true (rsF k) (rstM fo (rsF k) M j) (some 0))) from implFS_ok fo hfo.out ⟨b0, b1, b2, a1, a2⟩ true ⟨qa, qb, qc, qd⟩ 0 (rsF k) _ (some 0) v FF.out HQ.out fv0
              have f0 := FR.out.c0; have f1 := FR.out.c1; have f2 := FR.out.c2; have f3 := FR.out.c3; have f4 := FR.out.c4
              simp only at f0 f1 f2 f3 f4
              have cs : (FloatKind.f32.format.order qa 0 == some .eq) = false ∨ ((FloatKind.f32.format.order qa 0 == some .eq) = true ∧ (FloatKind.f32.format.order qb 0 == some .eq) = false) ∨ ((FloatKind.f32.format.order qa 0 == some .eq) = true ∧ (FloatKind.f32.format.order qb 0 == some .eq) = true ∧ (FloatKind.f32.format.order qc 0 == some .eq) = false) ∨ ((FloatKind.f32.format.order qa 0 == some .eq) = true ∧ (FloatKind.f32.format.order qb 0 == some .eq) = true ∧ (FloatKind.f32.format.order qc 0 == some .eq) = true ∧ (FloatKind.f32.format.order qd 0 == some .eq) = false) := by
                revert hst
                cases (FloatKind.f32.format.order qa 0 == some .eq) <;> cases (FloatKind.f32.format.order qb 0 == some .eq) <;> cases (FloatKind.f32.format.order qc 0 == some .eq) <;> cases (FloatKind.f32.format.order qd 0 == some .eq) <;> simp
              clear hst
              have hnn : nn ≤ 10000 := hn1
              rcases cs with h1 | ⟨h1, h2⟩ | ⟨h1, h2, h3⟩ | ⟨h1, h2, h3, h4⟩
              all_goals
                as_aux_lemma =>
                  go_wp2_with fail
                  refine (KS.out wr).mono ?_
                  rintro e w2 ⟨y, ⟨ra, rb, rc, rd⟩, rfl, hy, hm, hs⟩
                  have NK := Lib.hid (NR.out.since hs NR.out.lt)
                  have OK2 : Hid (On bn We w2) := Lib.hid (OR.out.trans (On.of_since hs NR.out.lt))
                  have HM := Lib.hid hm
                  clear hm hs hy KS FR NR f0 f1 f2 f3 f4 r0 r1 r2 r3 nl fl
                  have n0 := NK.out.c0; have n1_ := NK.out.c1; have n2_ := NK.out.c2; have n3_ := NK.out.c3
                  have l0 := NK.out.free 0; have l1 := NK.out.free 1; have l2 := NK.out.free 2; have l3 := NK.out.free 3
                  have nl := NK.out.lt
                  have NB2 := Lib.hid (NK.out.set ra rb rc rd)
                  simp only at n0 n1_ n2_ n3_
                  simp only [MemN.val_mk]
                  go_wp2_with fail
                  refine ⟨⟨j + 1, ⟨ra, rb, rc, rd⟩, by omega, by go_num, NB2.out.since ((World.Since.refl _ _).alloc (Nat.le_refl _) _) NB2.out.lt, HM.out, ((((OK2.out.set _ _).set _ _).set _ _).set _ _).alloc (by show bn ≤ _; exact Nat.le_of_lt NB2.out.lt) _⟩, by simp [intOf]; omega⟩
            · obtain rfl : j = nn := by omega
              have hst := N3.out
              unfold stO at hst
              rw [← ea, ← eb, ← ec, ← ed] at hst
              simp only [Bool.and_eq_true] at hst
              obtain ⟨⟨⟨h1, h2⟩, h3⟩, h4⟩ := hst
              clear ea eb ec ed
              simp only at r0 r1 r2 r3
              go_wp2_with fail
              go_ret
              exact ⟨rfl, S11.out.trans (since_mono OR.out.1 LW.out)⟩
      · exfalso
        have := hno 1510 (by omega)
        rw [RA.out] at this
        cases this
end Go.Proofs.Ytipdgnhbmfmhnaa

