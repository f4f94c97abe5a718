/- Filters: copies of samples; one filter over samples, the program's. -/
import Derived.Test.YtlddppnaakjamaaGu
import Derived.Test.YtlddppnaakjamaaTa
import Derived.Lib.SliceRun
set_option linter.unusedVariables false
set_option linter.unusedSimpArgs false
namespace Go.Proofs.Ytlddppnaakjamaa
open Fl Go.RowKit
set_option maxHeartbeats 4000000 in
set_option maxRecDepth 100000 in
theorem clone_any (A : Option Addr) (n c : Nat) (xs : List Nat) (w : World) (hA : Fs w w.heap.size A n xs) (hn : n ≤ 256) :
    Calls Try.prog 44 #[.slice A n c] w fun e w' => ∃ (A' : Option Addr) (c' : Nat) (ys : List Nat), e = .returned (.slice A' n c') ∧ (∀ a, A' = some a → ∃ g, a = ⟨g, 0, none⟩) ∧ Gs 22 w' w.heap.size A' n ys ∧ (∀ j, j < n → ab .f32 (wd ys j) = ab .f32 (wd xs j)) ∧ w.Since w.heap.size w' := by
  have hq := fun W => Lib.run_eql_slice_nil W 27 22 A n c 0 0 Try.underlying27
  have HA := Lib.hid hA; clear hA
  cases A with
  | none =>
    obtain rfl : n = 0 := by
      rcases Nat.eq_zero_or_pos n with h | h
      · exact h
      · obtain ⟨g, off, e, _⟩ := HA.out.2.2 h; cases e
    go_enter Try.func44, Try.ntmps44
    go_wp2
    go_ret
    exact ⟨none, 0, [], rfl, (fun a h => by cases h), Gs.nil_, fun j hj => by omega, World.Since.refl _ _⟩
  | some ad =>
    go_enter Try.func44, Try.ntmps44
    go_wp2_with (at_builtin; refine wpList_appN rfl (.tmp 5) (.tmp 6) rfl w.heap.size _ 0 (fun j => ab .f32 (wd xs j)) rfl _ _ _ xs _ rfl (by simp) (Lib.hid (HA.out.since ((World.Since.refl _ _).alloc (Nat.le_refl _) _))) (fun j hj => by rw [Nat.zero_add]) (by omega) (by simp) (Rw.start w _ (Nat.le_refl _) _) ?_; intro v1 wa hRa hSa; have Ha := Lib.hid (((World.Since.refl w.heap.size w).alloc (Nat.le_refl _) _).trans hSa.out); clear hSa; obtain ⟨pA, cq, px, rfl, hcq, hno, hso, hgp, hap⟩ := hRa.out.end_; have HNS := Lib.hid hso; have GP := Lib.hid hgp; have AP := Lib.hid hap; clear hgp hap hRa hno hso)
    go_ret
    exact ⟨pA, cq, px, rfl, (fun a h => by obtain ⟨g, e, _⟩ := HNS.out a h; exact ⟨g, e⟩), by first | exact GP.out | (have := GP.out; rwa [Nat.zero_add] at this), fun j hj => AP.out j (by first | exact hj | (show j < 0 + n; omega)), Ha.out⟩
theorem Try.infoMem : (Try.prog.info? 28).map (fun i => (i.zero, i.size, i.bytes)) = some (some (.agg #[.float .f32 0, .float .f32 0, .float .f32 0, .float .f32 0]), 4, 16) := by kernel_rfl
theorem make_mem (W : World) : (Instr.makeSlice 62 (.int .i64 1) (.int .i64 1)).run Try.prog W = .ok (.slice (some ⟨W.heap.size, 0, none⟩) 1 1) (W.alloc (.cells #[.float .f32 0, .float .f32 0, .float .f32 0, .float .f32 0] 28)) := by
  obtain ⟨i0, hi, hz0, hz1, hz2⟩ := info_parts Try.infoMem
  have h := run_make (P := Try.prog) W 62 28 i0 _ Try.underlying62 hi hz0 .i64 .i64 1 1 (by omega) (by omega) (by rw [hz2]; decide) (by omega)
  rw [hz1] at h
  have e : madeCells (Value.agg #[.float .f32 0, .float .f32 0, .float .f32 0, .float .f32 0]).cells (Int.toNat 1 * 4) = #[.float .f32 0, .float .f32 0, .float .f32 0, .float .f32 0] := by kernel_rfl
  rw [e] at h
  exact h
set_option maxHeartbeats 8000000 in
set_option maxRecDepth 100000 in
theorem implRFs_one (form : Nat) (hform : form ≤ 2) (fu : Bool) (f : FilN) (m : MemN) (F : Fil) (M : Mem) (A : Option Addr) (n c b1 b2 : Nat) (xs : List Nat) (w : World) (hF : FvF f F) (hM : FvM m M) (hA : Fs w w.heap.size A n xs) (hn : n ≤ 256) (hb1 : FilAt w b1 f) (hb2 : MemB 28 w b2 m) :
    Calls Try.prog 36 #[.slice (some ⟨b1, 0, none⟩) 1 1, .int .i64 (form : Int), .bool fu, .slice (some ⟨b2, 0, none⟩) 1 1, .slice A n c] w fun e w' => ∃ (p : Ls) (c' mg : Nat) (m' : MemN), e = .returned (.tuple #[.slice p.A p.n c', .slice (some ⟨mg, 0, none⟩) 1 1, .bool true]) ∧ p.n = n ∧ Gs 22 w' w.heap.size p.A p.n p.xs ∧ Are p (filY form fu F M (fun k => ab .f32 (wd xs k))) ∧ MemB 28 w' mg m' ∧ FvM m' (filM form fu F M (fun k => ab .f32 (wd xs k)) n) ∧ w.Since w.heap.size w' := by
  obtain ⟨kk, hkk, hso⟩ := stepOf_any form hform
  have HSO := Lib.hid hso; clear hso
  have hfew : decide ((n : Int) ≤ 256) = true := decide_eq_true (by omega)
  have HSM : Hid (∀ v, Calls Try.prog 43 #[.slice A n c] v fun e w' => e = .returned (.bool true) ∧ v = w') := Lib.hid fun v => implSamples_b A n c true v hfew
  have HA := Lib.hid hA
  have HB1 := Lib.hid hb1; have HB2 := Lib.hid hb2
  clear hA hb1 hb2 hfew
  go_enter Try.func36, Try.ntmps36
  go_wp2_with (first | (go_at_call 39; refine (HSO.out _).mono ?_; rintro e w' ⟨rfl, rfl⟩) | (go_at_call 43; refine (HSM.out _).mono ?_; rintro e w' ⟨rfl, rfl⟩))
  go_at_call 44
  refine (clone_any A n c xs w HA.out hn).mono ?_
  rintro e w1 ⟨A', c', ys, rfl, hsome, hg, hy, hs⟩
  have G1 := Lib.hid hg; have Y1 := Lib.hid hy; have S1 := Lib.hid hs; have NS := Lib.hid hsome
  clear hg hy hs hsome
  have hmk := make_mem w1
  have z1 := S1.out.size
  go_wp2_with fail
  generalize hW2 : World.alloc w1 _ = w2
  have z2 : w2.heap.size = w1.heap.size + 1 := by rw [← hW2]; simp
  have hs2 : w1.Since w1.heap.size w2 := by rw [← hW2]; exact (World.Since.refl _ _).alloc (Nat.le_refl _) _
  have S2 := Lib.hid (since_step S1.out hs2)
  have N2 : Hid (MemB 28 w2 w1.heap.size ⟨0, 0, 0, 0⟩) := Lib.hid (by rw [← hW2]; exact MemB.new _ _ _ _ _ _)
  have G2 := Lib.hid (G1.out.since hs2)
  have F2 := Lib.hid (HB1.out.since (since_mono S2.out (show b1 + 1 ≤ w.heap.size by have := HB1.out.lt; omega)))
  have M2 := Lib.hid (HB2.out.since S2.out HB2.out.lt)
  clear hW2 hs2 hmk
  have k0 := F2.out.b0; have k1 := F2.out.b1; have k2 := F2.out.b2; have k3 := F2.out.a1; have k4 := F2.out.a2
  refine wp_loop_rounds 2 ?_
  rw [rounds_succ]
  go_wp2_with fail
  generalize hW3 : World.alloc w2 _ = w3
  have z3 : w3.heap.size = w2.heap.size + 1 := by rw [← hW3]; simp
  have hs3 : w2.Since w2.heap.size w3 := by rw [← hW3]; exact (World.Since.refl _ _).alloc (Nat.le_refl _) _
  have FF : Hid (FilAt w3 w2.heap.size f) := Lib.hid (by rw [← hW3]; exact ⟨by simp, by simp [go_sem], by simp [go_sem], by simp [go_sem], by simp [go_sem], by simp [go_sem]⟩)
  have N3 := Lib.hid (N2.out.since hs3 N2.out.lt)
  have M3 := Lib.hid (M2.out.since hs3 M2.out.lt)
  have G3 := Lib.hid (G2.out.since hs3)
  have S3 := Lib.hid (since_step S2.out hs3)
  clear hW3 hs3 k0 k1 k2 k3 k4
  have FF' := FF.out
  rw [z2] at FF'
  have k0 := FF'.b0; have k1 := FF'.b1; have k2 := FF'.b2; have k3 := FF'.a1; have k4 := FF'.a2
  have m0 := M3.out.c0; have m1 := M3.out.c1; have m2 := M3.out.c2; have m3 := M3.out.c3
  have h18 : w1.heap.size + 1 < w3.heap.size := by omega
  have hmg : w1.heap.size < w3.heap.size := by omega
  have hb2 : b2 < w3.heap.size := M3.out.lt
  have hzw : w.heap.size ≤ w3.heap.size := S3.out.size
  -- the run in place
  have run : ∀ V : World, w3.Since w3.heap.size V → Calls Try.prog 41 #[.agg #[.float .f32 f.b0, .float .f32 f.b1, .float .f32 f.b2, .float .f32 f.a1, .float .f32 f.a2, .bool fu], .func (.func kk) #[] #[], .agg #[.float .f32 m.a, .float .f32 m.b, .float .f32 m.c, .float .f32 m.d], .slice A' n c'] V fun e w' => ∃ (ma mb mc md : Nat) (zs : List Nat), e = .returned (.agg #[.float .f32 ma, .float .f32 mb, .float .f32 mc, .float .f32 md]) ∧ FvM ⟨ma, mb, mc, md⟩ (filM form fu F M (fun k => ab .f32 (wd xs k)) n) ∧ Gs 22 w' w.heap.size A' n zs ∧ Are ⟨A', n, zs⟩ (filY form fu F M (fun k => ab .f32 (wd xs k))) ∧ w.Since w.heap.size w' ∧ MemB 28 w' w1.heap.size ⟨0, 0, 0, 0⟩ := fun V hs => by
    have hV := since_step S3.out hs
    have hgV := G3.out.since hs
    by_cases h0 : 0 < n
    · obtain ⟨g, cs, e9, hlg, hbg, _⟩ := G1.out.2.2 h0
      have hg1 : g < w1.heap.size := (Array.getElem?_eq_some_iff.1 hbg).1
      subst e9
      have h9 := implRun_any form kk hkk fu f m F M (some ⟨g, 0, none⟩) n c' g w.heap.size (fun k => ab .f32 (wd xs k)) V hF hM (fun h0 => ⟨rfl, Pr.of hgV h0 fun j hj => Y1.out j hj⟩) hn hV.size
      simp only [MemN.val, setV] at h9
      refine h9.mono fun e w' => ?_
      rintro ⟨⟨ma, mb, mc, md⟩, he, hm, hp, hs2, hfr⟩
      obtain ⟨zs, h1, h2⟩ := (hp h0).done hlg
      exact ⟨ma, mb, mc, md, zs, he, hm, h1, h2, hV.trans hs2, (N3.out.since hs N3.out.lt).of (hfr _ (by have := hs.size; omega) (by omega))⟩
    · have h9 := implRun_any form kk hkk fu f m F M A' n c' (w1.heap.size + 1) w.heap.size (fun k => ab .f32 (wd xs k)) V hF hM (fun h => absurd h h0) hn hV.size
      simp only [MemN.val, setV] at h9
      refine h9.mono fun e w' => ?_
      rintro ⟨⟨ma, mb, mc, md⟩, he, hm, hp, hs2, hfr⟩
      exact ⟨ma, mb, mc, md, [], he, hm, ⟨by simp; omega, (fun x hx => by cases hx), fun h => absurd h h0⟩, (fun j hj => absurd (Nat.lt_of_le_of_lt (Nat.zero_le _) hj) h0), hV.trans hs2, (N3.out.since hs N3.out.lt).of (hfr _ (by have := hs.size; omega) (by omega))⟩
  have RUN := Lib.hid run; clear run FF'
  have HCO := Lib.hid (cellsOf_any m)
  have MEMO := Lib.hid memory_any
  unfold MemN.val at HCO MEMO
  go_region_with (first
    | (go_at_call 49; refine (HCO.out _).mono ?_; rintro e w4 ⟨rfl, hs⟩; (try replace hs := sinUD hs); obtain ⟨hc4, hf4⟩ := Fl.sinCell hs; have T4 := Lib.hid hs; clear hs)
    | (go_at_call 41; refine (RUN.out _ T4.out).mono ?_; rintro e w5 ⟨ma, mb, mc, md, zs, rfl, hm, hg, ha, hs, hmb⟩; have M5 := Lib.hid hm; have G5 := Lib.hid hg; have A5 := Lib.hid ha; have T5 := Lib.hid hs; have N5 := Lib.hid hmb; clear hm hg ha hs hmb)
    | (go_at_call 57; refine (MEMO.out ⟨ma, mb, mc, md⟩ _).mono ?_; rintro e w6 ⟨rfl, hs⟩; (try replace hs := sinUD hs); have N6 := Lib.hid (N5.out.since hs N5.out.lt); have G6 := Lib.hid (G5.out.since hs); have T6 := Lib.hid (since_step T5.out hs); clear hs; have e0 := N6.out.c0; have e1 := N6.out.c1; have e2 := N6.out.c2; have e3 := N6.out.c3; have l0 := N6.out.free 0; have l1 := N6.out.free 1; have l2 := N6.out.free 2; have l3 := N6.out.free 3))
  all_goals
    have OO : Hid (On w1.heap.size w6 (((((w6.setCell ⟨w1.heap.size, 0, none⟩ (.float .f32 ma)).setCell ⟨w1.heap.size, 1, none⟩ (.float .f32 mb)).setCell ⟨w1.heap.size, 2, none⟩ (.float .f32 mc)).setCell ⟨w1.heap.size, 3, none⟩ (.float .f32 md)))) := Lib.hid (((((On.refl _ _).set _ _).set _ _).set _ _).set _ _)
    have NB := Lib.hid (N6.out.set ma mb mc md)
    have GV : Hid (Gs 22 (((((w6.setCell ⟨w1.heap.size, 0, none⟩ (.float .f32 ma)).setCell ⟨w1.heap.size, 1, none⟩ (.float .f32 mb)).setCell ⟨w1.heap.size, 2, none⟩ (.float .f32 mc)).setCell ⟨w1.heap.size, 3, none⟩ (.float .f32 md))) w.heap.size A' n zs) := Lib.hid (by
      by_cases h0 : 0 < n
      · obtain ⟨g, cs, e9, hlg, hbg, _⟩ := G1.out.2.2 h0
        have hg1 : g < w1.heap.size := (Array.getElem?_eq_some_iff.1 hbg).1
        exact Gs.on G6.out OO.out (fun s t h => by rw [e9] at h; injection h with h; injection h with h _ _; omega)
      · exact ⟨G6.out.1, G6.out.2.1, fun h => absurd h h0⟩)
    have SV := Lib.hid (T6.out.trans (since_mono OO.out.1 z1))
    generalize hV : World.setCell _ _ _ = V at *
    clear hV k0 k1 k2 k3 k4 m0 m1 m2 m3 e0 e1 e2 e3 l0 l1 l2 l3
    go_wp2_with fail
    rw [rounds_succ]
    go_wp2_with fail
    go_ret3
    exact ⟨⟨A', n, zs⟩, c', w1.heap.size, ⟨ma, mb, mc, md⟩, rfl, rfl, GV.out, A5.out, NB.out, M5.out, SV.out⟩
end Go.Proofs.Ytlddppnaakjamaa
