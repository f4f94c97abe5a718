/- The law of gates. -/
import Derived.Test.YtogbejgbaenfdaaHi
set_option linter.unusedVariables false
set_option linter.unusedSimpArgs false
namespace Go.Proofs.Ytogbejgbaenfdaa
open Fl Go.RowKit
theorem Fs.head {w : World} {B n m : Nat} {A : Option Addr} {xs : List Nat} (h : Fs w B A n xs) (hm : m ≤ n) : Fs w B A m (xs.take m) :=
  ⟨by rw [List.length_take, h.1]; omega, fun x hx => h.2.1 x (List.mem_of_mem_take hx), fun h0 => by
    obtain ⟨g, off, e, hg, hc⟩ := h.2.2 (by omega)
    refine ⟨g, off, e, hg, fun k hk => ?_⟩
    rw [hc k (by omega)]
    unfold fv wd
    simp [List.getD_eq_getElem?_getD, List.getElem?_take, hk]⟩
theorem wd_take (xs : List Nat) (m k : Nat) (h : k < m) : wd (xs.take m) k = wd xs k := by unfold wd; simp [List.getD_eq_getElem?_getD, List.getElem?_take, h]
theorem Fs.tail0 {w : World} {B n m : Nat} {g : Nat} {xs : List Nat} (h : Fs w B (some ⟨g, 0, none⟩) n xs) (hm : m ≤ n) : Fs w B (some ⟨g, m, none⟩) (n - m) (xs.drop m) := by
  have h1 := Fs.tail (n := m) (m := n - m) (g := g) (off := 0) (w := w) (B := B) (xs := xs) (by rw [show m + (n - m) = n by omega]; exact h)
  rwa [Nat.zero_add] at h1
theorem Fs.cell0 {w : World} {B n g k : Nat} {xs : List Nat} (h : Fs w B (some ⟨g, 0, none⟩) n xs) (hk : k < n) : w.cell? ⟨g, k, none⟩ = some (.float .f32 (wd xs k)) ∧ g < B := by
  obtain ⟨g', off, e, hg, hc⟩ := h.2.2 (by omega)
  injection e with e
  injection e with e1 e2 _
  subst e1; subst e2
  have := hc k hk
  rw [Nat.zero_add] at this
  exact ⟨this, hg⟩
/-- an operation whose guard says yes, as one without a guard -/
theorem wpList_yes {ops : Array Oper} {rest : List Oper} {o : Oper} {a : Act} {Q : Exit → Act → World → Prop} {w : World} (hw : Region.wanted o (yielded ops a.tmps) = true)
    (h : wpList Try.prog ops Q ({ o with guard := none } :: rest) a w) : wpList Try.prog ops Q (o :: rest) a w := by
  unfold wpList at h ⊢
  rw [if_pos hw]
  rw [if_pos (by rfl)] at h
  exact h
set_option maxHeartbeats 16000000 in
set_option maxRecDepth 100000 in
theorem lawGated_any (A : Option Addr) (n c : Nat) (xs : List Int) (B : Option Addr) (m d : Nat) (ys : List Int) (w : World) (hA : Bs w w.heap.size A n xs) (hB : Bs w w.heap.size B m ys) :
    Calls Try.prog 5 #[.slice A n c, .slice B m d] w fun e w' => e = .returned (.bool true) ∧ w.Since w.heap.size w' := by
  have HA := Lib.hid hA; have HB := Lib.hid hB; clear hA hB
  cases hl : (decide ((48 : Int) < n) || decide ((48 : Int) < m))
  case true =>
    go_enter Try.func5, Try.ntmps5
    go_wp2_with fail
    refine (r8Long_any A B n c m d true w hl).mono ?_
    rintro e w1 ⟨rfl, hs⟩
    have S1 := Lib.hid hs; clear hs
    go_wp2
    go_ret
    exact ⟨rfl, S1.out⟩
  case false =>
    have hnm : n ≤ 48 ∧ m ≤ 48 := by simp only [Bool.or_eq_false_iff, decide_eq_false_iff_not] at hl; omega
    go_enter Try.func5, Try.ntmps5
    go_wp2_with fail
    refine (r8Long_any A B n c m d false w hl).mono ?_
    rintro e w1 ⟨rfl, hs⟩
    have S1 := Lib.hid hs; clear hs hl
    go_wp2_with fail
    refine (samples_any B m d ys 16 w1 ((HB.out.since S1.out (Nat.le_refl _)).more S1.out.size) (by omega) (by omega)).mono ?_
    rintro e w2 ⟨k, hk, g, cp, zs, rfl, hcp, hg, hs⟩
    have G2 : Hid (Fs w2 w2.heap.size (some ⟨g, 0, none⟩) k zs) := Lib.hid hg.read
    have S2 := Lib.hid (since_step S1.out hs)
    clear hg hs
    go_wp2_with fail
    refine (r8At_any A n c xs 0 32 w2 ((HA.out.since S2.out (Nat.le_refl _)).more S2.out.size) (by omega) (by omega)).mono ?_
    rintro e w3 ⟨v3, rfl, a1, a2, hs⟩
    have a3 := a2 (by omega)
    have S3 := Lib.hid (since_step S2.out hs)
    have G3 := Lib.hid ((G2.out.since hs).more hs.size)
    clear hs a2
    have q1 := fI_fv v3
    have q16 : Hid (Fv .f32 1098907648 (some 1098907648)) := fvc (by decide) (by decide)
    go_wp2_with (with_reducible_and_instances refine Lo.wpList_fo _ rfl _ _ _ _ _ rfl _ _ _ _ _ rfl rfl rfl (by assumption) (by assumption) ?_; intro rr nn hrr)
    generalize hW : World.drewN w3 _ = W4
    have S4 : Hid (w.Since w.heap.size W4) := Lib.hid (by rw [← hW]; exact since_drewN S3.out _)
    have G4 : Hid (Fs W4 W4.heap.size (some ⟨g, 0, none⟩) k zs) := Lib.hid (by rw [← hW]; exact G3.out)
    clear hW G2 G3 S1 S2 S3
    have ht := hrr; clear hrr
    generalize opO .quo .f32 (some (fI v3)) (some 1098907648) = T at ht
    clear q1
    refine (r8At_any A n c xs 1 5 W4 ((HA.out.since S4.out (Nat.le_refl _)).more S4.out.size) (by omega) (by omega)).mono ?_
    rintro e w5 ⟨hold, rfl, b1, b2, hs⟩
    have b3 := b2 (by omega)
    have S5 := Lib.hid (since_step S4.out hs)
    have G5 := Lib.hid ((G4.out.since hs).more hs.size)
    clear hs b2 S4 G4
    go_wp2_with fail
    refine (r8At_any A n c xs 2 ((k : Int) + 1) w5 ((HA.out.since S5.out (Nat.le_refl _)).more S5.out.size) (by omega) (by omega)).mono ?_
    rintro e w6 ⟨at_, rfl, c1, c2, hs⟩
    have c3 := c2 (by omega)
    obtain ⟨a, rfl⟩ := Int.eq_ofNat_of_zero_le c1
    have ha : a ≤ k := by omega
    have S6 := Lib.hid (since_step S5.out hs)
    have G6 := Lib.hid ((G5.out.since hs).more hs.size)
    clear hs c1 c2 c3 S5 G5
    have i1 : inB hold 0 10000 = true := by simp only [inB, Bool.and_eq_true, decide_eq_true_eq]; omega
    have i2 : inB 0 0 hold = true := by simp only [inB, Bool.and_eq_true, decide_eq_true_eq]; omega
    obtain ⟨Z, hZ⟩ : ∃ Z : Nat → O, Hid (Z = fun j => ab .f32 (wd zs j)) := ⟨_, Lib.hid rfl⟩
    have hk0 : Calls Try.prog 29 #[.slice (some ⟨g, 0, none⟩) k cp, .float .f32 rr, .int .i64 hold, .int .i64 0] w6 (PLIBo k (gateY Z T hold 0) (gateH Z T hold 0 k) true w6) := by
      rw [hZ.out]; exact implGate_own (some ⟨g, 0, none⟩) k cp zs rr T hold 0 w6 G6.out (by omega) ht i1 i2
    have K0 := Lib.hid hk0; clear hk0
    go_wp2_with fail
    refine K0.out.mono ?_
    rintro e w7 ⟨g1, c1, o1, rfl, hc1, hg1, hf1, hs⟩
    have S7 := Lib.hid (since_step S6.out hs)
    have G7 := Lib.hid ((G6.out.since hs).more hs.size)
    have P7 := Lib.hid hg1.read; have F1 := Lib.hid hf1
    clear hs hg1 hf1 S6 G6 K0
    have l1 : ∀ j, j < a → (fun j => ab .f32 (wd (zs.take a) j)) j = Z j := fun j hj => by rw [hZ.out]; simp only; rw [wd_take _ _ _ hj]
    have l2 : (fun j => ab .f32 (wd (zs.drop a) j)) = fun j => Z (a + j) := by rw [hZ.out]; funext j; simp only; rw [wd_drop]
    have hk1 : Calls Try.prog 29 #[.slice (some ⟨g, 0, none⟩) a cp, .float .f32 rr, .int .i64 hold, .int .i64 0] w7 (PLIBo a (gateY (fun j => ab .f32 (wd (zs.take a) j)) T hold 0) (gateH Z T hold 0 a) true w7) := by
      rw [← gateH_like l1 a (Nat.le_refl _)]; exact implGate_own (some ⟨g, 0, none⟩) a cp (zs.take a) rr T hold 0 w7 (Fs.head G7.out ha) (by omega) ht i1 i2
    have K1 := Lib.hid hk1; clear hk1
    go_wp2_with fail
    refine K1.out.mono ?_
    rintro e w8 ⟨g2, c2, o2, rfl, hc2, hg2, hf2, hs⟩
    have S8 := Lib.hid (since_step S7.out hs)
    have G8 := Lib.hid ((G7.out.since hs).more hs.size)
    have P8 := Lib.hid ((P7.out.since hs).more hs.size)
    have Q8 := Lib.hid hg2.read
    have F2 : Hid (∀ j, j < a → ab .f32 (wd o2 j) = gateY Z T hold 0 j) := Lib.hid fun j hj => (hf2 j hj).trans (gateY_like l1 j hj)
    clear hs hg2 hf2 S7 G7 K1 P7
    have i3 : inB (gateH Z T hold 0 a) 0 hold = true := by
      have := gateH_in (X := Z) (T := T) (hold := hold) (held := 0) (by omega) (by omega) a
      simp only [inB, Bool.and_eq_true, decide_eq_true_eq]; omega
    have hk2 : ∀ (A' : Option Addr) (c' : Nat), (A' = some ⟨g, a, none⟩ ∨ k - a = 0) → Calls Try.prog 29 #[.slice A' (k - a) c', .float .f32 rr, .int .i64 hold, .int .i64 (gateH Z T hold 0 a)] w8 (PLIBo (k - a) (fun j => gateY Z T hold 0 (a + j)) (gateH Z T hold 0 k) true w8) := by
      intro A' c' hA'
      have hf : Fs w8 w8.heap.size A' (k - a) (zs.drop a) := by
        rcases hA' with rfl | h0
        · exact Fs.tail0 G8.out ha
        · have := Fs.tail0 G8.out ha; exact ⟨this.1, this.2.1, fun h => by omega⟩
      have h1 := implGate_own A' (k - a) c' (zs.drop a) rr T hold (gateH Z T hold 0 a) w8 hf (by omega) ht i1 i3
      rw [l2, gateH_cut, show a + (k - a) = k by omega] at h1
      rw [show (fun j => gateY Z T hold 0 (a + j)) = gateY (fun j => Z (a + j)) T hold (gateH Z T hold 0 a) by funext j; rw [gateY_cut]]
      exact h1
    have K2 := Lib.hid hk2; clear hk2
    go_wp2_with fail
    case' inl => refine (K2.out (some ⟨g, 0, none⟩) 0 (.inr (by omega))).mono ?_
    case' inr => refine (K2.out (some ⟨g, a, none⟩) (cp - a) (.inl rfl)).mono ?_
    all_goals
      rintro e w9 ⟨g3, c3, o3, rfl, hc3, hg3, hf3, hs⟩
      have S9 := Lib.hid (since_step S8.out hs)
      have G9 := Lib.hid ((G8.out.since hs).more hs.size)
      have P9 := Lib.hid ((P8.out.since hs).more hs.size)
      have Q9 := Lib.hid ((Q8.out.since hs).more hs.size)
      have R9 := Lib.hid hg3.read
      have F3 : Hid (∀ j, j < k - a → ab .f32 (wd o3 j) = gateY Z T hold 0 (a + j)) := Lib.hid hf3
      clear hs hg3 hf3 S8 G8 K2 P8 Q8
      go_wp2_with (first
        | (at_builtin; refine wpList_yes rfl ?_; refine wpList_appN rfl (.tmp 88) (.tmp 89) rfl w9.heap.size _ 0 (gateY Z T hold 0) rfl _ _ _ o2 _ rfl (by simp) (Lib.hid (Q9.out.since ((World.Since.refl _ _).alloc (Nat.le_refl _) _))) (fun j hj => by rw [Nat.zero_add]; exact (F2.out j hj).symm) (by omega) (by simp) (Rw.start w9 _ (Nat.le_refl _) _) ?_; intro v1 wa hRa hSa; have Ha := Lib.hid (((World.Since.refl w9.heap.size w9).alloc (Nat.le_refl _) _).trans hSa.out); clear hSa)
        | (at_builtin; refine wpList_yes rfl ?_; refine wpList_appN rfl (.tmp 90) (.tmp 91) rfl w9.heap.size _ (0 + a) (gateY Z T hold 0) rfl _ _ _ o3 _ rfl (by simp) (Lib.hid (R9.out.since Ha.out)) (fun j hj => by rw [Nat.zero_add]; exact (F3.out j hj).symm) (by omega) Ha.out.size hRa.out ?_; intro v2 wb hRb hSb; have Hb := Lib.hid (Ha.out.trans hSb.out); clear hSb; obtain ⟨⟨pA, pn, px⟩, cq, rfl, hpn, hgp, hap⟩ := hRb.out.done; simp only at hpn hgp; have hpk : k = pn := (by omega); subst hpk; have GP := Lib.hid hgp.read; have AP := Lib.hid hap; clear hgp hap hRa hRb hpn)
        | (go_at_call 30; refine (r8Same_any _ _ k _ _ px o1 wb GP.out ((P9.out.since Hb.out).more Hb.out.size) (by omega) (fun j hj => (AP.out j hj).trans (F1.out j hj).symm)).mono ?_; rintro e wc ⟨rfl, hs⟩; have Sc := Lib.hid (since_step (S9.out.trans (since_mono Hb.out S9.out.size)) hs); have Gc := Lib.hid (((G9.out.since Hb.out).since (since_mono hs Hb.out.size)).more (Nat.le_trans Hb.out.size hs.size)); have Pc := Lib.hid (((P9.out.since Hb.out).since (since_mono hs Hb.out.size)).more (Nat.le_trans Hb.out.size hs.size)); clear hs GP AP Hb Ha Q9 R9 G9 P9 S9))
      go_loopw [18, 19] (fun o i wr => ∃ j : Nat, j ≤ k ∧ i = .int .i64 (j : Int) ∧ o = .int .i64 (lastO Z T j) ∧ wc.Since wc.heap.size wr) (fun _ i _ => k - (intOf i).toNat)
      case atStart => exact ⟨0, Nat.zero_le _, rfl, rfl, World.Since.refl _ _⟩
      case round =>
        obtain ⟨j, hj, rfl, rfl, hs⟩ := hrel
        have SW := Lib.hid hs; clear hs
        by_cases hlt : j < k
        · obtain ⟨cz, bz⟩ := Fs.cell0 Gc.out hlt
          obtain ⟨co, bo⟩ := Fs.cell0 Pc.out hlt
          have kz : wr.cell? ⟨g, j, none⟩ = some (.float .f32 (wd zs j)) := (SW.out.cell (a := ⟨g, j, none⟩) bz).trans cz
          have ko : wr.cell? ⟨g1, j, none⟩ = some (.float .f32 (wd o1 j)) := (SW.out.cell (a := ⟨g1, j, none⟩) bo).trans co
          clear cz co
          have hx : Hid (Fv .f32 (wd zs j) (ab .f32 (wd zs j))) := Lib.hid ⟨Gc.out.2.1.at_ j, rfl⟩
          have hn : Hid (Fv .f32 (Op.negFloat .f32 (wd zs j)) (ab .f32 (Op.negFloat .f32 (wd zs j)))) := Lib.hid ⟨neg_lt .f32 hx.out.1, rfl⟩
          have hw1 := Pc.out.2.1.at_ j
          have hw2 := Gc.out.2.1.at_ j
          have hge := Lib.hid (ge_size (wd zs j) hw2 T rr ht.out)
          have hzj : Hid (Z j = ab .f32 (wd zs j)) := Lib.hid (by rw [hZ.out])
          obtain ⟨o', ho⟩ : ∃ o' : Int, Hid (lastO Z T (j + 1) = o') := ⟨_, Lib.hid rfl⟩
          have hL : Hid (o' = if geO (sizeO (Z j)) T then (j : Int) else lastO Z T j) := Lib.hid (ho.out.symm.trans rfl)
          have hY : Hid (ab .f32 (wd o1 j) = if 0 ≤ o' ∧ (j : Int) - o' ≤ hold then Z j else some 0) := Lib.hid (by rw [← ho.out]; exact (F1.out j hlt).trans (gateY_open Z T hold b1 j))
          have hi := lastO_in Z T j
          have g1_ := gt_fv hx ht
          have g2_ := eq_fv hx ht
          have g3_ := gt_fv hn ht
          have g4_ := eq_fv hn ht
          have hz0 : (0 : Nat) < 4294967296 := by decide
          have finish : Hid ((0 ≤ o' ∧ (j : Int) - o' ≤ hold → ∀ v : World, Calls Try.prog 12 #[.float .f32 (wd o1 j), .float .f32 (wd zs j)] v fun e v' => e = .returned (.bool true) ∧ v' = v) ∧ (¬ (0 ≤ o' ∧ (j : Int) - o' ≤ hold) → ∀ v : World, Calls Try.prog 12 #[.float .f32 (wd o1 j), .float .f32 0] v fun e v' => e = .returned (.bool true) ∧ v' = v)) := Lib.hid
            ⟨fun hp v => by
              have h9 := hY.out
              rw [if_pos hp, hzj.out] at h9
              exact (implSame_any _ _ _ hw1 hw2).mono fun e v' ⟨h1, h2⟩ => ⟨by rw [h1, h9, decide_eq_true rfl], h2.symm⟩,
            fun hp v => by
              have h9 := hY.out
              rw [if_neg hp] at h9
              exact (implSame_any _ _ _ hw1 hz0).mono fun e v' ⟨h1, h2⟩ => ⟨by rw [h1, h9, ab32_zero, decide_eq_true rfl], h2.symm⟩⟩
          clear hY
          have fin1 := Lib.hid finish.out.1; have fin2 := Lib.hid finish.out.2; clear finish
          have hgX : geO (ab .f32 (wd zs j)) T = (gtO (ab .f32 (wd zs j)) T || eqO (ab .f32 (wd zs j)) T) := rfl
          have hgN : geO (ab .f32 (Op.negFloat .f32 (wd zs j))) T = (gtO (ab .f32 (Op.negFloat .f32 (wd zs j))) T || eqO (ab .f32 (Op.negFloat .f32 (wd zs j))) T) := rfl
          have hLo : Hid (geO (sizeO (Z j)) T = ((gtO (ab .f32 (wd zs j)) T || eqO (ab .f32 (wd zs j)) T) || (gtO (ab .f32 (Op.negFloat .f32 (wd zs j))) T || eqO (ab .f32 (Op.negFloat .f32 (wd zs j))) T))) := Lib.hid (by rw [hzj.out, hge.out, hgX, hgN])
          clear hgX hgN hge
          cases loud : geO (sizeO (Z j)) T
          · have hl1 := hL.out
            rw [loud, if_neg (by decide)] at hl1
            have hl2 := hLo.out
            rw [loud] at hl2
            have hl3 := hl2.symm
            simp only [Bool.or_eq_false_iff] at hl3
            obtain ⟨⟨e1, e2⟩, e3, e4⟩ := hl3
            clear hl2 hL hLo loud
            subst hl1
            generalize lastO Z T j = q at *
            rw [e1] at g1_; rw [e2] at g2_; rw [e3] at g3_; rw [e4] at g4_
            by_cases p1 : 0 ≤ q
            · have d1 : decide (0 ≤ q) = true := decide_eq_true p1
              by_cases p2 : (j : Int) - q ≤ hold
              · have d2 : decide ((j : Int) - q ≤ hold) = true := decide_eq_true p2
                have HQ := Lib.hid (fin1.out ⟨p1, p2⟩)
                clear fin1 fin2
                go_wp2_with fail
                go_quiet (first | (go_at_call 12; refine Calls.quiet_of_same (HQ.out _)))
                go_wp2
                go_roundw
                case rel => exact ⟨j + 1, by omega, by go_num, by rw [ho.out], since_drewN SW.out _⟩
                case measure => simp [intOf]; omega
              · have d2 : decide ((j : Int) - q ≤ hold) = false := decide_eq_false p2
                have HQ := Lib.hid (fin2.out fun h => p2 h.2)
                clear fin1 fin2
                go_wp2_with (go_at_call 12; refine (HQ.out _).mono ?_; rintro e v' ⟨rfl, rfl⟩)
                go_roundw
                case rel => exact ⟨j + 1, by omega, by go_num, by rw [ho.out], SW.out⟩
                case measure => simp [intOf]; omega
            · have d1 : decide (0 ≤ q) = false := decide_eq_false p1
              have HQ := Lib.hid (fin2.out fun h => p1 h.1)
              clear fin1 fin2
              go_wp2_with (go_at_call 12; refine (HQ.out _).mono ?_; rintro e v' ⟨rfl, rfl⟩)
              go_roundw
              case rel => exact ⟨j + 1, by omega, by go_num, by rw [ho.out], SW.out⟩
              case measure => simp [intOf]; omega
          · have hl1 := hL.out
            rw [loud, if_pos rfl] at hl1
            have hl2 := hLo.out
            rw [loud] at hl2
            subst hl1
            have d1 : decide (0 ≤ (j : Int)) = true := decide_eq_true (by omega)
            have d2 : decide (0 ≤ hold) = true := decide_eq_true (by omega)
            have HQ := Lib.hid (fin1.out ⟨by omega, by omega⟩)
            clear fin1 fin2 hL hLo loud
            cases e1 : gtO (ab .f32 (wd zs j)) T
            · cases e2 : eqO (ab .f32 (wd zs j)) T
              · cases e3 : gtO (ab .f32 (Op.negFloat .f32 (wd zs j))) T
                · cases e4 : eqO (ab .f32 (Op.negFloat .f32 (wd zs j))) T
                  · rw [e1, e2, e3, e4] at hl2; simp at hl2
                  · clear hl2
                    rw [e1] at g1_
                    rw [e2] at g2_
                    rw [e3] at g3_
                    rw [e4] at g4_
                    go_wp2_with fail
                    go_quiet (first | (go_at_call 12; refine Calls.quiet_of_same (HQ.out _)))
                    go_wp2
                    go_roundw
                    case rel => exact ⟨j + 1, by omega, by go_num, by rw [ho.out], since_drewN SW.out _⟩
                    case measure => simp [intOf]; omega
                · clear hl2
                  rw [e1] at g1_
                  rw [e2] at g2_
                  rw [e3] at g3_
                  go_wp2_with fail
                  go_quiet (first | (go_at_call 12; refine Calls.quiet_of_same (HQ.out _)))
                  go_wp2
                  go_roundw
                  case rel => exact ⟨j + 1, by omega, by go_num, by rw [ho.out], since_drewN SW.out _⟩
                  case measure => simp [intOf]; omega
              · clear hl2
                rw [e1] at g1_
                rw [e2] at g2_
                go_wp2_with fail
                go_quiet (first | (go_at_call 12; refine Calls.quiet_of_same (HQ.out _)))
                go_wp2
                go_roundw
                case rel => exact ⟨j + 1, by omega, by go_num, by rw [ho.out], since_drewN SW.out _⟩
                case measure => simp [intOf]; omega
            · clear hl2
              rw [e1] at g1_
              go_wp2_with fail
              go_quiet (first | (go_at_call 12; refine Calls.quiet_of_same (HQ.out _)))
              go_wp2
              go_roundw
              case rel => exact ⟨j + 1, by omega, by go_num, by rw [ho.out], since_drewN SW.out _⟩
              case measure => simp [intOf]; omega
        · obtain rfl : j = k := by omega
          go_wp2
          go_ret
          exact ⟨rfl, since_step Sc.out SW.out⟩
end Go.Proofs.Ytogbejgbaenfdaa
