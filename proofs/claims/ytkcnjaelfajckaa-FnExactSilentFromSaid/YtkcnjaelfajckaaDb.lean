/- When a delay is silent: the program and the model. -/
import Derived.Test.YtkcnjaelfajckaaDz
set_option linter.unusedVariables false
set_option linter.unusedSimpArgs false
namespace Go.Proofs.Ytkcnjaelfajckaa
open Fl Go.RowKit
/-- silent behind k samples -/
def Sil (n : Nat) (S : Nat → O) (k : Nat) : Prop := ∀ i, i < n → zer (S (k + i)) = true
theorem all64 (n k : Nat) (f : Nat → Nat) (S : Nat → O) (hn : 0 < n) (hn2 : n ≤ 64) (hf : ∀ j, j < n → ab .f32 (f j) = S (Ln.ix n k j)) (hz : ∀ j, n ≤ j → j < 64 → f j = 0) :
    ((List.range' 0 64).all fun i => Op.floatEq .f32 (f i) 0) = true ↔ Sil n S k := by
  rw [List.all_eq_true]
  constructor
  · intro h i hi
    have hj := Nat.mod_lt (k % n + i) hn
    have h1 := h ((k % n + i) % n) (List.mem_range'_1.2 ⟨by omega, by omega⟩)
    rw [floatEq_zer, hf _ hj, Ln.ix_at hi] at h1
    exact h1
  · intro h j hj
    have hj2 := (List.mem_range'_1.1 hj).2
    by_cases e : j < n
    · rw [floatEq_zer, hf j e]
      have := Ln.ix_lt (n := n) (k := k) (j := j) hn
      have h1 := h (Ln.ix n k j - k) (by omega)
      rwa [show k + (Ln.ix n k j - k) = Ln.ix n k j by omega] at h1
    · show Op.floatEq .f32 (f j) 0 = true
      rw [hz j (by omega) (by omega)]
      have h0 : Op.floatEq .f32 0 0 = true := by kernel_rfl
      exact h0
theorem bool_of {b : Bool} {p : Prop} (h : b = true ↔ p) (c : Bool) (hp : c = true ↔ p) : b = c := by
  cases b <;> cases c <;> simp_all
/-- what is told: the number K, or nothing -/
def Told (K : Nat) (R : Int) (bb : Bool) : Prop := (K ≤ 256 → R = K ∧ bb = true) ∧ (¬ K ≤ 256 → R = 0 ∧ bb = false)
theorem wd_nil (k : Nat) : wd [] k = 0 := by simp [wd]
set_option maxHeartbeats 4000000 in
set_option maxRecDepth 100000 in
theorem implSilent_ok (d : DelN) (D : Del) (A : Option Addr) (n c : Nat) (xs : List Nat) (K : Nat) (w : World) (hD : FvD d D) (hl : d.l = (n : Int)) (h1 : 1 ≤ n) (h2 : n ≤ 64) (hfb : finB d.fb = true) (hok : DelOk d)
    (hA : Fs w w.heap.size A n xs) (hx : ∀ i, i < n → finB (wd xs i) = true) (hK : K ≤ 257) (hm : ∀ j, j < K → ¬ Sil n (Sd d.fl D n xs []) j) (hs : K ≤ 256 → Sil n (Sd d.fl D n xs []) K) (R : Int) (bb : Bool) (hrb : Told K R bb) :
    Calls Try.prog 47 #[d.val, .slice A n c] w (PIB R bb w) := by
  obtain ⟨dl, dfb, ddry, dwet, dfl⟩ := d
  simp only at hl hfb
  subst hl
  have hline : (okLen (n : Int) && decide ((n : Int) = (n : Int))) = true := by unfold okLen; simp; omega
  have hf32 : dfb < 4294967296 := hok.fb
  have HA := Lib.hid hA; have HDD := Lib.hid hD; have HX := Lib.hid hx; have HM := Lib.hid hm; have HS := Lib.hid hs; have HFB := Lib.hid hfb
  clear hA hD hx hm hs hfb hok
  simp only [DelN.val]
  obtain ⟨W1, hW1⟩ : ∃ W, W = w.alloc (.cells #[.int .i64 (n : Int), .float .f32 dfb, .float .f32 ddry, .float .f32 dwet, .bool dfl] 26) := ⟨_, rfl⟩
  have z1 : W1.heap.size = w.heap.size + 1 := by rw [hW1]; simp
  have S1 : Hid (w.Since w.heap.size W1) := Lib.hid (by rw [hW1]; exact (World.Since.refl _ _).alloc (Nat.le_refl _) _)
  have D1 : Hid (DelAt W1 w.heap.size ⟨(n : Int), dfb, ddry, dwet, dfl⟩) := Lib.hid ⟨by omega, by rw [hW1]; simp [go_sem], by rw [hW1]; simp [go_sem], by rw [hW1]; simp [go_sem], by rw [hW1]; simp [go_sem], by rw [hW1]; simp [go_sem]⟩
  have hfi := fun W => implFinite_any dfb W hf32
  rw [HFB.out] at hfi
  have HF := Lib.hid hfi
  clear hfi
  go_enter Try.func47, Try.ntmps47
  go_wp2_with (first | (go_at_call 88; refine (implIsLineOf_b _ _ _ _ _ _ hline).mono ?_; rintro e w' ⟨rfl, rfl⟩) | (go_at_call 98; refine (HF.out _).mono ?_; rintro e w' ⟨rfl, rfl⟩) | (go_at_call 99; refine (allFinite_any A n c xs true _ w.heap.size (HA.out.since ((World.Since.refl _ _).alloc (Nat.le_refl _) _)) (by omega) ⟨fun _ => HX.out, fun _ => rfl⟩).mono ?_; rintro e w' ⟨rfl, rfl⟩))
  rw [← hW1]
  refine (ringOf_any A n c xs W1 (HA.out.now S1.out) h1 h2).mono ?_
  rintro e w3 ⟨rfl, hr3, hs3⟩
  have R3 := Lib.hid hr3; have S3 := Lib.hid hs3
  clear hr3 hs3
  rw [z1] at R3 S3 ⊢
  go_wp2_with fail
  go_loopw [7] (fun i wr => ∃ (k : Nat) (f : Nat → Nat), k ≤ K ∧ i = .int .i64 k ∧ RingAt wr (w.heap.size + 1) n (k % n) f ∧ (∀ j, j < n → ab .f32 (f j) = Sd dfl D n xs [] (Ln.ix n k j)) ∧ (∀ j, n ≤ j → j < 64 → f j = 0) ∧ DelAt wr w.heap.size ⟨(n : Int), dfb, ddry, dwet, dfl⟩ ∧ w.Since w.heap.size wr) (fun i _ => 257 - (intOf i).toNat)
  case atStart =>
    refine ⟨0, _, Nat.zero_le _, rfl, by rw [Nat.zero_mod]; exact R3.out, fun j hj => by rw [Ln.ix_zero hj]; exact (Sd_old hj).symm, fun j hj _ => ?_, D1.out.of S3.out.size (S3.out.block _ (by omega)), S1.out.trans (since_mono S3.out (by omega))⟩
    have := HA.out.1
    unfold wd; simp [List.getElem?_eq_none (show xs.length ≤ j by omega)]
  case round =>
    obtain ⟨k, f, hk, rfl, hr, hf, hz, hd, hsi⟩ := hrel
    have HR := Lib.hid hr; have HFF := Lib.hid hf; have HZ := Lib.hid hz; have HDA := Lib.hid hd; have HSI := Lib.hid hsi
    clear hr hf hz hd hsi
    have ha := all64 n k f _ h1 h2 HFF.out HZ.out
    have ho : k % n < n := Nat.mod_lt _ h1
    by_cases h256 : k ≤ 256
    · by_cases hlt : k < K
      · have hsil := isSilent_any _ n _ f wr HR.out
        rw [bool_of ha false ⟨fun h => (by cases h), fun h => absurd h (HM.out k hlt)⟩] at hsil
        have HSL := Lib.hid hsil
        clear hsil ha
        have hc0 := HDA.out.l; have hc1 := HDA.out.fb; have hc2 := HDA.out.dry; have hc3 := HDA.out.wet; have hc4 := HDA.out.fl
        simp only at hc0 hc1 hc2 hc3 hc4
        go_wp2_with (first | (go_at_call 100; refine HSL.out.mono ?_; rintro e w' ⟨rfl, rfl⟩) | (go_at_call 68; refine (throughDelay_any ⟨(n : Int), dfb, ddry, dwet, dfl⟩ D _ n _ f 0 (ab .f32 0) _ HDD.out HR.out ho h2 (Lib.hid ⟨by decide, rfl⟩)).mono ?_; rintro e w5 ⟨r, v, rfl, hr5, hv5, hring5, hon5⟩; have HV := Lib.hid hv5; have HRG := Lib.hid hring5; have HON := Lib.hid hon5; clear hr5 hv5 hring5 hon5 hc0 hc1 hc2 hc3 hc4))
        go_roundw
        case rel =>
          refine ⟨k + 1, fun i => if i = k % n then v else f i, by omega, by go_num, by rw [← Ln.mod_step h1]; exact HRG.out, fun j hj => ?_, fun j hj h64 => ?_, HDA.out.on HON.out (by omega), HSI.out.trans (HON.out.since (by omega))⟩
          · rw [Ln.ix_step hj]
            show ab .f32 (if j = k % n then v else f j) = _
            by_cases e : j = k % n
            · have hn5 := Sd_new (fu := dfl) (D := D) (xs := xs) (ys := []) h1 k
              rw [wd_nil] at hn5
              have hold : ab .f32 (f (k % n)) = Sd dfl D n xs [] k := by rw [HFF.out _ ho, Ln.ix_old h1]
              rw [if_pos e, if_pos e, hn5, ← hold]; exact HV.out.out.2
            · rw [if_neg e, if_neg e]; exact HFF.out j hj
          · show (if j = k % n then v else f j) = 0
            rw [if_neg (by omega)]; exact HZ.out j hj h64
        case measure => simp [intOf]; omega
      · obtain rfl : k = K := by omega
        have hsil := isSilent_any _ n _ f wr HR.out
        rw [bool_of ha true ⟨fun _ => HS.out h256, fun _ => rfl⟩] at hsil
        have HSL := Lib.hid hsil
        clear hsil ha
        go_wp2_with (first | (go_at_call 100; refine HSL.out.mono ?_; rintro e w' ⟨rfl, rfl⟩))
        go_ret2
        obtain ⟨rfl, rfl⟩ := hrb.1 h256
        exact ⟨rfl, HSI.out⟩
    · clear ha
      go_wp2
      go_ret2
      obtain ⟨rfl, rfl⟩ := hrb.2 (by omega)
      exact ⟨rfl, HSI.out⟩
set_option maxHeartbeats 4000000 in
set_option maxRecDepth 100000 in
theorem specSilent_ok (d : DelN) (D : Del) (A : Option Addr) (n c : Nat) (xs : List Nat) (K : Nat) (w : World) (hD : FvD d D) (hl : d.l = (n : Int)) (h1 : 1 ≤ n) (h2 : n ≤ 64) (hfb : finB d.fb = true) (hok : DelOk d)
    (hA : Fs w w.heap.size A n xs) (hx : ∀ i, i < n → finB (wd xs i) = true) (hK : K ≤ 257) (hm : ∀ j, j < K → ¬ Sil n (Sd d.fl D n xs []) j) (hs : K ≤ 256 → Sil n (Sd d.fl D n xs []) K) (R : Int) (bb : Bool) (hrb : Told K R bb) :
    Calls Try.prog 46 #[d.val, .slice A n c] w (PIB R bb w) := by
  obtain ⟨dl, dfb, ddry, dwet, dfl⟩ := d
  simp only at hl hfb
  subst hl
  have hline : okLen (n : Int) = true := by unfold okLen; simp; omega
  have hf32 : dfb < 4294967296 := hok.fb
  have HA := Lib.hid hA; have HDD := Lib.hid hD; have HX := Lib.hid hx; have HM := Lib.hid hm; have HS := Lib.hid hs; have HFB := Lib.hid hfb
  clear hA hD hx hm hs hfb hok
  simp only [DelN.val]
  obtain ⟨W1, hW1⟩ : ∃ W, W = w.alloc (.cells #[.int .i64 (n : Int), .float .f32 dfb, .float .f32 ddry, .float .f32 dwet, .bool dfl] 26) := ⟨_, rfl⟩
  have z1 : W1.heap.size = w.heap.size + 1 := by rw [hW1]; simp
  have S1 : Hid (w.Since w.heap.size W1) := Lib.hid (by rw [hW1]; exact (World.Since.refl _ _).alloc (Nat.le_refl _) _)
  have D1 : Hid (DelAt W1 w.heap.size ⟨(n : Int), dfb, ddry, dwet, dfl⟩) := Lib.hid ⟨by omega, by rw [hW1]; simp [go_sem], by rw [hW1]; simp [go_sem], by rw [hW1]; simp [go_sem], by rw [hW1]; simp [go_sem], by rw [hW1]; simp [go_sem]⟩
  go_enter Try.func46, Try.ntmps46
  go_wp2_with (first | (go_at_call 61; refine (specLen_b _ _ _ hline).mono ?_; rintro e w' ⟨rfl, rfl⟩) | (go_at_call 96; refine (specFin_any _ true _ hf32 HFB.out).mono ?_; rintro e w' ⟨rfl, m, rfl⟩))
  go_loopw [28] (fun i wr => ∃ k : Nat, k ≤ n ∧ i = .int .i64 k ∧ DelAt wr w.heap.size ⟨(n : Int), dfb, ddry, dwet, dfl⟩ ∧ w.Since w.heap.size wr) (fun i _ => n - (intOf i).toNat)
  case atStart => exact ⟨0, Nat.zero_le _, rfl, by rw [← hW1]; exact D1.out.drewN _, by rw [← hW1]; exact since_drewN S1.out _⟩
  case round =>
    obtain ⟨k, hk, rfl, hd, hsi⟩ := hrel
    have HDA := Lib.hid hd; have HSI := Lib.hid hsi
    clear hd hsi
    by_cases hlt : k < n
    · obtain ⟨g, off, rfl, hg, hc⟩ := HA.out.2.2 (by omega)
      have hcell : wr.cell? ⟨g, off + k, none⟩ = some (.float .f32 (wd xs k)) := (HSI.out.cell (a := ⟨g, off + k, none⟩) hg).trans (hc k hlt)
      clear hc
      go_wp2_with (first | (go_at_call 96; refine (specFin_any _ true _ (HA.out.2.1.at_ k) (HX.out k hlt)).mono ?_; rintro e w' ⟨rfl, m, rfl⟩))
      go_roundw
      case rel => exact ⟨k + 1, by omega, by go_num, HDA.out.drewN _, since_drewN HSI.out _⟩
      case measure => simp [intOf]; omega
    · obtain rfl : k = n := by omega
      have hgl := HDA.out.lt
      go_wp2_with (first | (go_at_call 65; refine (specOwn_any A k c xs _ (HA.out.now HSI.out) h1 (by omega)).mono ?_; rintro e w1 ⟨g1, c1, rfl, hg1, hlo1, hhi1, hs1⟩; have HG1 := Lib.hid hg1; have HS1 := Lib.hid hs1; clear hg1 hs1))
      have HD1 : Hid (DelAt w1 w.heap.size ⟨(k : Int), dfb, ddry, dwet, dfl⟩) := Lib.hid (HDA.out.of HS1.out.size (HS1.out.block _ (by omega)))
      have HSI1 : Hid (w.Since w.heap.size w1) := Lib.hid (since_step HSI.out HS1.out)
      clear HDA HSI
      go_loopw [8] (fun i wr => ∃ (q : Nat) (zs : List Nat), q ≤ K ∧ i = .int .i64 q ∧ Gs 22 wr w.heap.size (some ⟨g1, 0, none⟩) k zs ∧ Are' k zs (fun i => Sd dfl D k xs [] (q + i)) ∧ DelAt wr w.heap.size ⟨(k : Int), dfb, ddry, dwet, dfl⟩ ∧ w.Since w.heap.size wr) (fun i _ => 257 - (intOf i).toNat)
      case atStart => exact ⟨0, xs, Nat.zero_le _, rfl, HG1.out.less (by omega), fun i hi => by show _ = Sd dfl D k xs [] (0 + i); rw [Nat.zero_add]; exact (Sd_old hi).symm, HD1.out, HSI1.out⟩
      case round =>
        obtain ⟨q, zs, hq, rfl, hgs, har, hda, hsi⟩ := hrel
        have HGZ := Lib.hid hgs; have HAR := Lib.hid har; have HDA := Lib.hid hda; have HSI := Lib.hid hsi
        clear hgs har hda hsi
        have hzer : (∀ i, i < k → zer (ab .f32 (wd zs i)) = true) ↔ Sil k (Sd dfl D k xs []) q := ⟨fun h i hi => (by have e := HAR.out i hi; simp only at e; rw [← e]; exact h i hi), fun h i hi => (by have e := HAR.out i hi; simp only at e; rw [e]; exact h i hi)⟩
        by_cases h256 : q ≤ 256
        · by_cases hlt2 : q < K
          · have hno : (false = true) ↔ ∀ i, i < k → zer (ab .f32 (wd zs i)) = true := ⟨fun h => (by cases h), fun h => absurd (hzer.1 h) (HM.out q hlt2)⟩
            have HNO := Lib.hid hno
            clear hzer hno
            have hx0 : Hid (Fv .f32 0 (ab .f32 0)) := Lib.hid ⟨by decide, rfl⟩
            go_wp2_with (first | (go_at_call 97; refine (specZeros_any _ k _ zs false _ _ HGZ.out.read (by omega) HNO.out).mono ?_; rintro e w' ⟨rfl, rfl⟩) | (go_at_call 66; refine (specDelay_any ⟨(k : Int), dfb, ddry, dwet, dfl⟩ D w.heap.size g1 k c1 zs (fun i => Sd dfl D k xs [] (q + i)) _ (ab .f32 0) _ w.heap.size HDA.out HDD.out (by omega) HGZ.out HAR.out h1 (by omega) hx0).mono ?_; rintro e w2 ⟨r, zs2, rfl, hr2, hg2, ha2, ho2⟩; have HG2 := Lib.hid hg2; have HA2 := Lib.hid ha2; have HO2 := Lib.hid ho2; clear hr2 hg2 ha2 ho2))
            go_roundw
            case rel =>
              have hn5 := Sd_new (fu := dfl) (D := D) (xs := xs) (ys := []) h1 q
              rw [wd_nil] at hn5
              exact ⟨q + 1, zs2, by omega, by go_num, HG2.out, fun i hi => (HA2.out i hi).trans (took_step (S := Sd dfl D k xs []) hn5 i hi), HDA.out.on HO2.out (by omega), HSI.out.trans (HO2.out.since (by omega))⟩
            case measure => simp [intOf]; omega
          · obtain rfl : q = K := by omega
            have hyes : (true = true) ↔ ∀ i, i < k → zer (ab .f32 (wd zs i)) = true := ⟨fun _ => hzer.2 (HS.out h256), fun _ => rfl⟩
            have HYES := Lib.hid hyes
            clear hzer hyes
            go_wp2_with (first | (go_at_call 97; refine (specZeros_any _ k _ zs true _ _ HGZ.out.read (by omega) HYES.out).mono ?_; rintro e w' ⟨rfl, rfl⟩))
            go_ret2
            obtain ⟨rfl, rfl⟩ := hrb.1 h256
            exact ⟨rfl, HSI.out⟩
        · clear hzer
          go_wp2
          go_ret2
          obtain ⟨rfl, rfl⟩ := hrb.2 (by omega)
          exact ⟨rfl, HSI.out⟩
set_option maxHeartbeats 4000000 in
set_option maxRecDepth 100000 in
theorem specSilent_no (d : DelN) (A : Option Addr) (n c : Nat) (xs : List Nat) (w : World) (hok : DelOk d) (hA : Fs w w.heap.size A n xs) (hn : n ≤ 1048576)
    (hbad : (okLen d.l && (decide ((n : Int) = d.l) && finB d.fb)) = false ∨ ∃ i, i < n ∧ finB (wd xs i) = false) :
    Calls Try.prog 46 #[d.val, .slice A n c] w (PIB 0 false w) := by
  obtain ⟨dl, dfb, ddry, dwet, dfl⟩ := d
  simp only at hbad
  have hf32 : dfb < 4294967296 := hok.fb
  have HA := Lib.hid hA; have HBAD := Lib.hid hbad
  clear hA hok hbad
  simp only [DelN.val]
  cases h1 : okLen dl
  · go_enter Try.func46, Try.ntmps46
    go_wp2_with (first | (go_at_call 61; refine (specLen_b _ _ _ h1).mono ?_; rintro e w' ⟨rfl, rfl⟩))
    go_ret2
    exact ⟨rfl, by (repeat (first | (with_reducible refine Fl.sinDrew ?_) | (with_reducible refine World.Since.drew ?_) | (with_reducible refine Fl.sinSet ?_ ?_; rotate_left) | (with_reducible refine Fl.sinAlloc ?_ ?_; rotate_left) | with_reducible exact World.Since.refl _ _ | with_reducible assumption | (with_reducible refine Fl.sinStep (by with_reducible assumption) ?_))); all_goals (first | omega | (simp; done) | (simp; omega) | (simp [go_sem]; done) | (simp [go_sem]; omega))⟩
  · by_cases h2 : (n : Int) = dl
    · subst h2
      cases h3 : finB dfb
      · have h5 := fun W => specFin_any dfb false W hf32 h3
        have H5 := Lib.hid h5
        clear h5 h3
        go_enter Try.func46, Try.ntmps46
        go_wp2_with (first | (go_at_call 61; refine (specLen_b _ _ _ h1).mono ?_; rintro e w' ⟨rfl, rfl⟩) | (go_at_call 96; refine (H5.out _).mono ?_; rintro e w' ⟨rfl, m, rfl⟩))
        go_ret2
        exact ⟨rfl, by (repeat (first | (with_reducible refine Fl.sinDrew ?_) | (with_reducible refine World.Since.drew ?_) | (with_reducible refine Fl.sinSet ?_ ?_; rotate_left) | (with_reducible refine Fl.sinAlloc ?_ ?_; rotate_left) | with_reducible exact World.Since.refl _ _ | with_reducible assumption | (with_reducible refine Fl.sinStep (by with_reducible assumption) ?_))); all_goals (first | omega | (simp; done) | (simp; omega) | (simp [go_sem]; done) | (simp [go_sem]; omega))⟩
      · have h5 := fun W => specFin_any dfb true W hf32 h3
        have H5 := Lib.hid h5
        have HEX : Hid (∃ i, i < n ∧ finB (wd xs i) = false) := Lib.hid (by
          rcases HBAD.out with h | h
          · rw [h1, h3] at h; simp at h
          · exact h)
        clear h5 h3
        obtain ⟨W1, hW1⟩ : ∃ W, W = w.alloc (.cells #[.int .i64 (n : Int), .float .f32 dfb, .float .f32 ddry, .float .f32 dwet, .bool dfl] 26) := ⟨_, rfl⟩
        have S1 : Hid (w.Since w.heap.size W1) := Lib.hid (by rw [hW1]; exact (World.Since.refl _ _).alloc (Nat.le_refl _) _)
        go_enter Try.func46, Try.ntmps46
        go_wp2_with (first | (go_at_call 61; refine (specLen_b _ _ _ h1).mono ?_; rintro e w' ⟨rfl, rfl⟩) | (go_at_call 96; refine (H5.out _).mono ?_; rintro e w' ⟨rfl, m, rfl⟩))
        go_loopw [28] (fun i wr => ∃ k : Nat, k ≤ n ∧ i = .int .i64 k ∧ (∀ j, j < k → finB (wd xs j) = true) ∧ w.Since w.heap.size wr) (fun i _ => n - (intOf i).toNat)
        case atStart => exact ⟨0, Nat.zero_le _, rfl, fun j hj => by omega, by rw [← hW1]; exact since_drewN S1.out _⟩
        case round =>
          obtain ⟨k, hk, rfl, hf, hsi⟩ := hrel
          have HF := Lib.hid hf; have HSI := Lib.hid hsi
          clear hf hsi
          have hlt : k < n := by
            obtain ⟨i, hi, hfi⟩ := HEX.out
            rcases Nat.lt_or_ge k n with h | h
            · exact h
            · exact absurd (HF.out i (by omega)) (by rw [hfi]; simp)
          obtain ⟨g, off, rfl, hg, hc⟩ := HA.out.2.2 (by omega)
          have hcell : wr.cell? ⟨g, off + k, none⟩ = some (.float .f32 (wd xs k)) := (HSI.out.cell (a := ⟨g, off + k, none⟩) hg).trans (hc k hlt)
          clear hc
          cases hfk : finB (wd xs k)
          · have h6 := fun W => specFin_any (wd xs k) false W (HA.out.2.1.at_ k) hfk
            have H6 := Lib.hid h6
            clear h6
            go_wp2_with (first | (go_at_call 96; refine (H6.out _).mono ?_; rintro e w' ⟨rfl, m, rfl⟩))
            go_ret2
            exact ⟨rfl, since_drewN HSI.out _⟩
          · have h6 := fun W => specFin_any (wd xs k) true W (HA.out.2.1.at_ k) hfk
            have H6 := Lib.hid h6
            clear h6
            go_wp2_with (first | (go_at_call 96; refine (H6.out _).mono ?_; rintro e w' ⟨rfl, m, rfl⟩))
            go_roundw
            case rel =>
              refine ⟨k + 1, by omega, by go_num, fun j hj => ?_, since_drewN HSI.out _⟩
              by_cases e : j = k
              · subst e; exact hfk
              · exact HF.out j (by omega)
            case measure => simp [intOf]; omega
    · have h4 : ((n : Int) == dl) = false := by simpa using h2
      go_enter Try.func46, Try.ntmps46
      go_wp2_with (first | (go_at_call 61; refine (specLen_b _ _ _ h1).mono ?_; rintro e w' ⟨rfl, rfl⟩))
      go_ret2
      exact ⟨rfl, by (repeat (first | (with_reducible refine Fl.sinDrew ?_) | (with_reducible refine World.Since.drew ?_) | (with_reducible refine Fl.sinSet ?_ ?_; rotate_left) | (with_reducible refine Fl.sinAlloc ?_ ?_; rotate_left) | with_reducible exact World.Since.refl _ _ | with_reducible assumption | (with_reducible refine Fl.sinStep (by with_reducible assumption) ?_))); all_goals (first | omega | (simp; done) | (simp; omega) | (simp [go_sem]; done) | (simp [go_sem]; omega))⟩
set_option maxHeartbeats 4000000 in
set_option maxRecDepth 100000 in
theorem implSilent_no (d : DelN) (A : Option Addr) (n c : Nat) (xs : List Nat) (w : World) (hok : DelOk d) (hA : Fs w w.heap.size A n xs) (hn : n ≤ 1048576)
    (hbad : (okLen d.l && (decide ((n : Int) = d.l) && finB d.fb)) = false ∨ ∃ i, i < n ∧ finB (wd xs i) = false) :
    Calls Try.prog 47 #[d.val, .slice A n c] w (PIB 0 false w) := by
  obtain ⟨dl, dfb, ddry, dwet, dfl⟩ := d
  simp only at hbad
  have hf32 : dfb < 4294967296 := hok.fb
  have HA := Lib.hid hA; have HBAD := Lib.hid hbad
  clear hA hok hbad
  simp only [DelN.val]
  cases h1 : (okLen (n : Int) && decide ((n : Int) = dl))
  · go_enter Try.func47, Try.ntmps47
    go_wp2_with (first | (go_at_call 88; refine (implIsLineOf_b _ _ _ _ _ _ h1).mono ?_; rintro e w' ⟨rfl, rfl⟩))
    go_ret2
    exact ⟨rfl, by (repeat (first | (with_reducible refine Fl.sinDrew ?_) | (with_reducible refine World.Since.drew ?_) | (with_reducible refine Fl.sinSet ?_ ?_; rotate_left) | (with_reducible refine Fl.sinAlloc ?_ ?_; rotate_left) | with_reducible exact World.Since.refl _ _ | with_reducible assumption | (with_reducible refine Fl.sinStep (by with_reducible assumption) ?_))); all_goals (first | omega | (simp; done) | (simp; omega) | (simp [go_sem]; done) | (simp [go_sem]; omega))⟩
  · cases h3 : finB dfb
    · have h5 := fun W => implFinite_any dfb W hf32
      rw [h3] at h5
      have H5 := Lib.hid h5
      clear h5 h3
      go_enter Try.func47, Try.ntmps47
      go_wp2_with (first | (go_at_call 88; refine (implIsLineOf_b _ _ _ _ _ _ h1).mono ?_; rintro e w' ⟨rfl, rfl⟩) | (go_at_call 98; refine (H5.out _).mono ?_; rintro e w' ⟨rfl, rfl⟩))
      go_ret2
      exact ⟨rfl, by (repeat (first | (with_reducible refine Fl.sinDrew ?_) | (with_reducible refine World.Since.drew ?_) | (with_reducible refine Fl.sinSet ?_ ?_; rotate_left) | (with_reducible refine Fl.sinAlloc ?_ ?_; rotate_left) | with_reducible exact World.Since.refl _ _ | with_reducible assumption | (with_reducible refine Fl.sinStep (by with_reducible assumption) ?_))); all_goals (first | omega | (simp; done) | (simp; omega) | (simp [go_sem]; done) | (simp [go_sem]; omega))⟩
    · have h5 := fun W => implFinite_any dfb W hf32
      rw [h3] at h5
      have H5 := Lib.hid h5
      have HNO : Hid ((false = true) ↔ ∀ i, i < n → finB (wd xs i) = true) := Lib.hid ⟨fun h => (by cases h), fun h => by
        rcases HBAD.out with h6 | ⟨i, hi, hfi⟩
        · simp only [Bool.and_eq_true, decide_eq_true_eq] at h1
          rw [← h1.2, h1.1, h3] at h6; simp at h6
        · rw [h i hi] at hfi; cases hfi⟩
      clear h5 h3
      go_enter Try.func47, Try.ntmps47
      go_wp2_with (first | (go_at_call 88; refine (implIsLineOf_b _ _ _ _ _ _ h1).mono ?_; rintro e w' ⟨rfl, rfl⟩) | (go_at_call 98; refine (H5.out _).mono ?_; rintro e w' ⟨rfl, rfl⟩) | (go_at_call 99; refine (allFinite_any A n c xs false _ w.heap.size (HA.out.since ((World.Since.refl _ _).alloc (Nat.le_refl _) _)) (by omega) HNO.out).mono ?_; rintro e w' ⟨rfl, rfl⟩))
      go_ret2
      exact ⟨rfl, by (repeat (first | (with_reducible refine Fl.sinDrew ?_) | (with_reducible refine World.Since.drew ?_) | (with_reducible refine Fl.sinSet ?_ ?_; rotate_left) | (with_reducible refine Fl.sinAlloc ?_ ?_; rotate_left) | with_reducible exact World.Since.refl _ _ | with_reducible assumption | (with_reducible refine Fl.sinStep (by with_reducible assumption) ?_))); all_goals (first | omega | (simp; done) | (simp; omega) | (simp [go_sem]; done) | (simp [go_sem]; omega))⟩
/-- the least of some numbers up to 256, or 257 -/
theorem least (p : Nat → Prop) : ∃ K, K ≤ 257 ∧ (∀ j, j < K → ¬ p j) ∧ (K ≤ 256 → p K) := by
  have key : ∀ m, m ≤ 257 → (∃ K, K ≤ 257 ∧ (∀ j, j < K → ¬ p j) ∧ (K ≤ 256 → p K)) ∨ (∀ j, j < m → ¬ p j) := by
    intro m
    induction m with
    | zero => exact fun _ => .inr (fun j hj => by omega)
    | succ m ih =>
      intro hm
      rcases ih (by omega) with h | h
      · exact .inl h
      · by_cases e : p m
        · exact .inl ⟨m, by omega, h, fun _ => e⟩
        · exact .inr (fun j hj => by
            by_cases e2 : j = m
            · subst e2; exact e
            · exact h j (by omega))
  rcases key 257 (Nat.le_refl _) with h | h
  · exact h
  · exact ⟨257, Nat.le_refl _, h, fun h => by omega⟩
end Go.Proofs.Ytkcnjaelfajckaa
