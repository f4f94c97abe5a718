/- SameMemory, walked. -/
import Derived.Test.YtleioidlihpjgaaGs
import Derived.Laws.StructEq
import Derived.Laws.Small
import Derived.Laws.Cover2
set_option linter.unusedVariables false
set_option linter.unusedSimpArgs false
namespace Go.Proofs.Ytleioidlihpjgaa
open Fl Go.RowKit
def sameB (a b : Nat) : Bool := decide (bitsO (ab .f32 a) = bitsO (ab .f32 b))
theorem l01Same_any (a b : Nat) (c : Bool) (w : World) (ha : a < 4294967296) (hb : b < 4294967296) (hc : sameB a b = c) :
    Calls Try.prog 76 #[.float .f32 a, .float .f32 b] w fun e w' => e = .returned (.bool c) ∧ w = w' := by
  have HC := Lib.hid hc; clear hc
  go_enter Try.func76, Try.ntmps76
  go_wp2_with (go_at_call 88; refine (l01Bits_any _ _ (by assumption)).mono ?_; rintro e w' ⟨rfl, rfl⟩)
  go_ret
  exact ⟨ret_bool (by rw [← HC.out]; unfold sameB; rw [Bool.eq_iff_iff]; simp; omega), rfl⟩

set_option maxHeartbeats 4000000 in
set_option maxRecDepth 100000 in
theorem specSM_any (m n : MemN) (w : World) (hm : FvM m (ofM m)) (hn : FvM n (ofM n)) (c0 c1 c2 c3 : Bool) (h0 : sameB m.a n.a = c0) (h1 : sameB m.b n.b = c1) (h2 : sameB m.c n.c = c2) (h3 : sameB m.d n.d = c3) :
    Calls Try.prog 53 #[m.val, n.val] w fun e w' => e = .returned (.bool (c0 && c1 && c2 && c3)) ∧ w.Since w.heap.size w' := by
  obtain ⟨ma, mb, mc, md⟩ := m
  obtain ⟨na, nb, nc, nd⟩ := n
  have l0 : ma < 4294967296 := hm.a.out.1
  have l1 : mb < 4294967296 := hm.b.out.1
  have l2 : mc < 4294967296 := hm.c.out.1
  have l3 : md < 4294967296 := hm.d.out.1
  have k0 : na < 4294967296 := hn.a.out.1
  have k1 : nb < 4294967296 := hn.b.out.1
  have k2 : nc < 4294967296 := hn.c.out.1
  have k3 : nd < 4294967296 := hn.d.out.1
  clear hm hn
  simp only at h0 h1 h2 h3
  unfold MemN.val
  have H0 := Lib.hid h0; have H1 := Lib.hid h1; have H2 := Lib.hid h2; have H3 := Lib.hid h3
  clear h0 h1 h2 h3
  cases c0 <;> cases c1 <;> cases c2 <;> cases c3
  all_goals
    go_enter Try.func53, Try.ntmps53
    go_wp2_with (go_at_call 76; first | ((with_reducible refine (l01Same_any ma na _ _ l0 k0 H0.out).mono ?_); rintro e w' ⟨rfl, rfl⟩) | ((with_reducible refine (l01Same_any mb nb _ _ l1 k1 H1.out).mono ?_); rintro e w' ⟨rfl, rfl⟩) | ((with_reducible refine (l01Same_any mc nc _ _ l2 k2 H2.out).mono ?_); rintro e w' ⟨rfl, rfl⟩) | ((with_reducible refine (l01Same_any md nd _ _ l3 k3 H3.out).mono ?_); rintro e w' ⟨rfl, rfl⟩))
    go_ret
    exact ⟨rfl, by (repeat (first | (with_reducible refine Fl.sinDrew ?_) | (with_reducible refine World.Since.drew ?_) | (with_reducible refine Fl.sinSet ?_ ?_; rotate_left) | (with_reducible refine Fl.sinAlloc ?_ ?_; rotate_left) | with_reducible exact World.Since.refl _ _ | with_reducible assumption | (with_reducible refine Fl.sinStep (by with_reducible assumption) ?_))); all_goals (first | omega | (simp; done) | (simp; omega) | (simp [go_sem]; done) | (simp [go_sem]; omega))⟩

set_option maxHeartbeats 4000000 in
set_option maxRecDepth 100000 in
theorem singles_any (m : MemN) (w : World) (hm : FvM m (ofM m)) :
    Calls Try.prog 77 #[m.val] w fun e w' => e = .returned (.agg #[.int .u32 (singleN m.a : Nat), .int .u32 (singleN m.b : Nat), .int .u32 (singleN m.c : Nat), .int .u32 (singleN m.d : Nat)]) ∧ w.Since w.heap.size w' := by
  obtain ⟨ra, rb, rc, rd⟩ := m
  have l0 : ra < 4294967296 := hm.a.out.1
  have l1 : rb < 4294967296 := hm.b.out.1
  have l2 : rc < 4294967296 := hm.c.out.1
  have l3 : rd < 4294967296 := hm.d.out.1
  clear hm
  unfold MemN.val
  have i0 : ∀ w, (Instr.index 90 (.agg #[.float .f32 ra, .float .f32 rb, .float .f32 rc, .float .f32 rd]) (.int .i64 0)).run Try.prog w = .ok (.float .f32 ra) w := fun _ => by kernel_rfl
  have i1 : ∀ w, (Instr.index 90 (.agg #[.float .f32 ra, .float .f32 rb, .float .f32 rc, .float .f32 rd]) (.int .i64 1)).run Try.prog w = .ok (.float .f32 rb) w := fun _ => by kernel_rfl
  have i2 : ∀ w, (Instr.index 90 (.agg #[.float .f32 ra, .float .f32 rb, .float .f32 rc, .float .f32 rd]) (.int .i64 2)).run Try.prog w = .ok (.float .f32 rc) w := fun _ => by kernel_rfl
  have i3 : ∀ w, (Instr.index 90 (.agg #[.float .f32 ra, .float .f32 rb, .float .f32 rc, .float .f32 rd]) (.int .i64 3)).run Try.prog w = .ok (.float .f32 rd) w := fun _ => by kernel_rfl
  go_enter Try.func77, Try.ntmps77
  go_wp2
  refine wp_loop_rounds 5 ?_
  iterate 5 (rw [rounds_succ]; go_wp2_with (first | (go_at_call 85; refine (patternOf_any _ _).mono ?_; rintro e w' ⟨rfl, rfl⟩) | (go_at_call 89; refine (single_any _ _ (by assumption)).mono ?_; rintro e w' ⟨rfl, rfl⟩)))
  exact bodyPost_ret (v := .agg #[.int .u32 (singleN ra : Nat), .int .u32 (singleN rb : Nat), .int .u32 (singleN rc : Nat), .int .u32 (singleN rd : Nat)]) (by simp [results, Try.results77, go_sem]) rfl ⟨rfl, by (repeat (first | (with_reducible refine Fl.sinDrew ?_) | (with_reducible refine World.Since.drew ?_) | (with_reducible refine Fl.sinSet ?_ ?_; rotate_left) | (with_reducible refine Fl.sinAlloc ?_ ?_; rotate_left) | with_reducible exact World.Since.refl _ _ | with_reducible assumption | (with_reducible refine Fl.sinStep (by with_reducible assumption) ?_))); all_goals (first | omega | (simp; done) | (simp; omega) | (simp [go_sem]; done) | (simp [go_sem]; omega))⟩

theorem sameInt (a b : Nat) : ((singleN a : Int) == (singleN b : Int)) = sameB a b := by
  unfold sameB
  rw [← single_bits, ← single_bits, Bool.eq_iff_iff]
  simp
  omega
@[go_sem] theorem Try.eq4 (a b c d a2 b2 c2 d2 : Int) (w : World) : (Op.equalIn 10000 110 (.agg #[.int .u32 a, .int .u32 b, .int .u32 c, .int .u32 d]) (.agg #[.int .u32 a2, .int .u32 b2, .int .u32 c2, .int .u32 d2])).run Try.prog w = .ok (a == a2 && b == b2 && c == c2 && d == d2) w := by
  have u3 := Try.underlying109
  have a3 := Try.isAgg109
  have z3 := Try.sizeOf109
  rw [show (10000 : Nat) = 9999 + 1 from rfl, Op.equalIn]
  simp only [Sem.run_bind, run_underlying Try.underlying110, Result.andThen_ok]
  simp only [Std.Legacy.Range.forIn_eq_forIn_range', Std.Legacy.Range.size, Nat.sub_zero, Nat.add_sub_cancel, Nat.div_one, List.range'_succ, List.range'_zero, List.forIn_cons, List.forIn_nil]
  go_simp
  by_cases h1 : a = a2 <;> by_cases h2 : b = b2 <;> by_cases h3 : c = c2 <;> by_cases h4 : d = d2 <;> simp [h1, h2, h3, h4]

set_option maxHeartbeats 8000000 in
set_option maxRecDepth 100000 in
theorem implSM_any (m n : MemN) (w : World) (hm : FvM m (ofM m)) (hn : FvM n (ofM n)) (c0 c1 c2 c3 : Bool) (h0 : sameB m.a n.a = c0) (h1 : sameB m.b n.b = c1) (h2 : sameB m.c n.c = c2) (h3 : sameB m.d n.d = c3) :
    Calls Try.prog 54 #[m.val, n.val] w fun e w' => e = .returned (.bool (c0 && c1 && c2 && c3)) ∧ w.Since w.heap.size w' := by
  have hcm := cellsOf_any m
  have hcn := cellsOf_any n
  have hsm := fun w => singles_any m w hm
  have hsn := fun w => singles_any n w hn
  obtain ⟨ma, mb, mc, md⟩ := m
  obtain ⟨na, nb, nc, nd⟩ := n
  simp only at h0 h1 h2 h3
  unfold MemN.val at *
  have H0 := Lib.hid h0; have H1 := Lib.hid h1; have H2 := Lib.hid h2; have H3 := Lib.hid h3
  have CM := Lib.hid hcm; have CN := Lib.hid hcn; have SM := Lib.hid hsm; have SN := Lib.hid hsn
  clear h0 h1 h2 h3 hcm hcn hsm hsn hm hn
  go_enter Try.func54, Try.ntmps54
  go_wp2
  go_region_with (first | (go_at_call_of 62 (Value.float .f32 ma); ((with_reducible refine (CM.out _).mono ?_); rintro e w1 ⟨rfl, hs⟩; (try replace hs := sinUD hs); (try have y10 : w.heap.size < w1.heap.size := (by have hsz := hs.size; (try simp only [World.drew, World.drewN, Go.Deep.nblk_alloc, Go.Deep.nblk_setCell] at hsz); omega)); (try have y11 : w.heap.size + 1 < w1.heap.size := (by have hsz := hs.size; (try simp only [World.drew, World.drewN, Go.Deep.nblk_alloc, Go.Deep.nblk_setCell] at hsz); omega)); (try have v1 : w.heap.size ≤ w1.heap.size := (by have hsz := hs.size; (try simp only [World.drew, World.drewN, Go.Deep.nblk_alloc, Go.Deep.nblk_setCell] at hsz); omega)); obtain ⟨hc1, hf1⟩ := Fl.sinCell hs; have S1 := Lib.hid hs; clear hs)) | (go_at_call_of 77 (Value.float .f32 ma); ((with_reducible refine (SM.out _).mono ?_); rintro e w2 ⟨rfl, hs⟩; (try replace hs := sinUD hs); (try have y20 : w.heap.size < w2.heap.size := (by have hsz := hs.size; (try simp only [World.drew, World.drewN, Go.Deep.nblk_alloc, Go.Deep.nblk_setCell] at hsz); omega)); (try have y21 : w.heap.size + 1 < w2.heap.size := (by have hsz := hs.size; (try simp only [World.drew, World.drewN, Go.Deep.nblk_alloc, Go.Deep.nblk_setCell] at hsz); omega)); (try have v2 : w.heap.size ≤ w2.heap.size := (by have hsz := hs.size; (try simp only [World.drew, World.drewN, Go.Deep.nblk_alloc, Go.Deep.nblk_setCell] at hsz); omega)); obtain ⟨hc2, hf2⟩ := Fl.sinCell hs; have S2 := Lib.hid hs; clear hs)) | (go_at_call_of 62 (Value.float .f32 na); ((with_reducible refine (CN.out _).mono ?_); rintro e w3 ⟨rfl, hs⟩; (try replace hs := sinUD hs); (try have y30 : w.heap.size < w3.heap.size := (by have hsz := hs.size; (try simp only [World.drew, World.drewN, Go.Deep.nblk_alloc, Go.Deep.nblk_setCell] at hsz); omega)); (try have y31 : w.heap.size + 1 < w3.heap.size := (by have hsz := hs.size; (try simp only [World.drew, World.drewN, Go.Deep.nblk_alloc, Go.Deep.nblk_setCell] at hsz); omega)); (try have v3 : w.heap.size ≤ w3.heap.size := (by have hsz := hs.size; (try simp only [World.drew, World.drewN, Go.Deep.nblk_alloc, Go.Deep.nblk_setCell] at hsz); omega)); obtain ⟨hc3, hf3⟩ := Fl.sinCell hs; have S3 := Lib.hid hs; clear hs)) | (go_at_call_of 77 (Value.float .f32 na); ((with_reducible refine (SN.out _).mono ?_); rintro e w4 ⟨rfl, hs⟩; (try replace hs := sinUD hs); (try have y40 : w.heap.size < w4.heap.size := (by have hsz := hs.size; (try simp only [World.drew, World.drewN, Go.Deep.nblk_alloc, Go.Deep.nblk_setCell] at hsz); omega)); (try have y41 : w.heap.size + 1 < w4.heap.size := (by have hsz := hs.size; (try simp only [World.drew, World.drewN, Go.Deep.nblk_alloc, Go.Deep.nblk_setCell] at hsz); omega)); (try have v4 : w.heap.size ≤ w4.heap.size := (by have hsz := hs.size; (try simp only [World.drew, World.drewN, Go.Deep.nblk_alloc, Go.Deep.nblk_setCell] at hsz); omega)); obtain ⟨hc4, hf4⟩ := Fl.sinCell hs; have S4 := Lib.hid hs; clear hs)))
  all_goals
    go_wp2
    go_ret
    exact ⟨ret_bool (by rw [sameInt, sameInt, sameInt, sameInt, H0.out, H1.out, H2.out, H3.out]), by (repeat (first | (with_reducible refine Fl.sinDrew ?_) | (with_reducible refine World.Since.drew ?_) | (with_reducible refine Fl.sinSet ?_ ?_; rotate_left) | (with_reducible refine Fl.sinAlloc ?_ ?_; rotate_left) | with_reducible exact World.Since.refl _ _ | with_reducible assumption | (with_reducible refine Fl.sinStep (by with_reducible assumption) ?_))); all_goals (first | omega | (simp; done) | (simp; omega) | (simp [go_sem]; done) | (simp [go_sem]; omega))⟩
end Go.Proofs.Ytleioidlihpjgaa
