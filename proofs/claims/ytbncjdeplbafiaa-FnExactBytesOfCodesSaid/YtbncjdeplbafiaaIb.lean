/- Codes of bytes, of both. -/
import Derived.Test.YtbncjdeplbafiaaSk
import Derived.Test.YtbncjdeplbafiaaJa
import Derived.Test.YtbncjdeplbafiaaLq
import Derived.Test.YtbncjdeplbafiaaMa
set_option linter.unusedVariables false
set_option linter.unusedSimpArgs false
namespace Go.Proofs.Ytbncjdeplbafiaa
open Fl Go.RowKit
theorem ixS (s : ByteArray) (i : Int) (j : Nat) (h : i = (j : Int)) (hj : j < s.size) (w : World) : (Instr.index 9 (.string s) (.int .i64 i)).run Try.prog w = .ok (.int .u8 (byteN s j : Nat)) w := by
  subst h
  rw [byteN_eq hj]
  have h0 : (0 : Int) ≤ j := Int.natCast_nonneg _
  have h1 : (j : Int) < s.size := by omega
  simp [go_sem, hj, h0, h1]
def rawC (s : ByteArray) (k : Nat) : Nat := byteN s (2 * k) + 256 * byteN s (2 * k + 1)
def codC (s : ByteArray) (k : Nat) : Int := if 32768 ≤ rawC s k then (rawC s k : Int) - 65536 else rawC s k
def lisC (s : ByteArray) (k : Nat) : List Int := (List.range k).map (codC s)
theorem lisC_len (s : ByteArray) (k : Nat) : (lisC s k).length = k := by simp [lisC]
theorem lisC_succ (s : ByteArray) (k : Nat) : lisC s (k + 1) = lisC s k ++ [codC s k] := by simp [lisC, List.range_succ]
theorem lisC_at (s : ByteArray) {j n : Nat} (h : j < n) : wi (lisC s n) j = codC s j := by unfold wi lisC; simp [h]
theorem madeI (s : ByteArray) (w : World) (n : Nat) : GF (w.alloc (.cells (madeCells #[Value.int .i64 0] n) 2)) w.heap.size 2 n (fun j => .int .i64 (if j < 0 then codC s j else 0)) := by
  obtain ⟨cs, hb, _, hc⟩ := World.rowIs_made w (.int .i64 0) n 2
  exact ⟨cs, hb, fun j hj => by
    rw [hc j hj]
    show some (Value.int .i64 0) = some (.int .i64 (if j < 0 then _ else 0))
    rw [if_neg (by omega)]⟩
theorem wrap_u16 (n : Nat) (h : n < 65536) : IntKind.u16.wrap (n : Int) = n := by
  show (if (false && decide ((n : Int) % 65536 ≥ 32768)) = true then (n : Int) % 65536 - 65536 else (n : Int) % 65536) = _
  rw [if_neg (by rw [Bool.false_and]; decide)]
  omega
theorem or_u16 (q p : Nat) (hq : q < 256) (hp : p < 256) : bits BinOp.or IntKind.u16 ((q : Int) * 256) (p : Int) = ((q * 256 + p : Nat) : Int) := by
  have ha : (BitVec.ofInt 16 ((q : Int) * 256)).toNat = q * 256 := by
    rw [show (q : Int) * 256 = ((q * 256 : Nat) : Int) by omega, BitVec.ofInt_natCast, BitVec.toNat_ofNat]; omega
  have hb : (BitVec.ofInt 16 (p : Int)).toNat = p := by
    rw [BitVec.ofInt_natCast, BitVec.toNat_ofNat]; omega
  have ho : q * 256 ||| p = q * 256 + p := by
    have := Nat.two_pow_add_eq_or_of_lt (i := 8) (b := p) (by omega) q
    rw [show (2 : Nat) ^ 8 * q = q * 256 by omega] at this
    exact this.symm
  show IntKind.u16.wrap (((BitVec.ofInt 16 ((q : Int) * 256) ||| BitVec.ofInt 16 (p : Int)).toNat : Nat) : Int) = _
  rw [BitVec.toNat_or, ha, hb, ho]
  exact wrap_u16 _ (by omega)
theorem wrap_i16 (n : Nat) (h : n < 65536) : IntKind.i16.wrap (n : Int) = if 32768 ≤ n then (n : Int) - 65536 else n := by
  show (if (true && decide ((n : Int) % 65536 ≥ 32768)) = true then (n : Int) % 65536 - 65536 else (n : Int) % 65536) = _
  have : (n : Int) % 65536 = n := by omega
  rw [this]
  by_cases h2 : 32768 ≤ n
  · rw [if_pos h2, if_pos (by simp; omega)]
  · rw [if_neg h2, if_neg (by simp; omega)]
theorem tabC (q : Nat) (hq : q < 256) (p : Nat) (hp : p < 256) : wrap64 (IntKind.i16.wrap (bits BinOp.or IntKind.u16 ((q : Int) * 256) (p : Int))) = if 32768 ≤ p + 256 * q then (p : Int) + 256 * (q : Int) - 65536 else (p : Int) + 256 * (q : Int) := by
  rw [or_u16 q p hq hp, wrap_i16 _ (by omega)]
  unfold wrap64
  by_cases h : 32768 ≤ p + 256 * q
  · rw [if_pos h, if_pos (by omega)]; omega
  · rw [if_neg h, if_neg (by omega)]; omega
theorem igsI {w : World} {g lo n : Nat} {f : Nat → Int} {xs : List Int} (h : GF w g 2 n (fun j => .int .i64 (f j))) (hl : xs.length = n) (he : ∀ j, j < n → wi xs j = f j) (hg : lo ≤ g := by exact Nat.le_refl _) : IGs 2 w lo (some ⟨g, 0, none⟩) n xs :=
  ⟨hl, fun _ => by
    obtain ⟨cs, hb, hc⟩ := h
    exact ⟨g, cs, rfl, hg, hb, fun j hj => by rw [hc j hj]; unfold iv; rw [he j hj]⟩⟩
set_option maxHeartbeats 4000000 in
set_option maxRecDepth 100000 in
theorem specCodesB_ok (s : ByteArray) (n : Nat) (w : World) (hn : s.size = 2 * n) (h : n ≤ 256) :
    Calls Try.prog 9 #[.string s] w (PJB n (lisC s n) true w) := by
  have HN := Lib.hid hn
  have h0 : ((s.size : Int) % 2) = 0 := by omega
  have h1 : ¬ (512 : Int) < s.size := by omega
  have h2 : s.size ≤ 512 := by omega
  clear hn
  go_enter Try.func9, Try.ntmps9
  go_wp2
  go_loopw [4, 5] (fun v i wr => ∃ k : Nat, k ≤ n ∧ i = .int .i64 ((2 * k : Nat) : Int) ∧ RwI w.heap.size wr v (lisC s k) ∧ w.Since w.heap.size wr) (fun _ i _ => s.size - (intOf i).toNat)
  case atStart => exact ⟨0, Nat.zero_le _, rfl, RwI.start w _ (Nat.le_refl _), (World.Since.refl _ _).alloc (Nat.le_refl _) _⟩
  case round =>
    obtain ⟨k, hk, rfl, hr, hs⟩ := hrel
    have HR := Lib.hid hr; have HS := Lib.hid hs
    clear hr hs
    by_cases hlt : k < n
    · have hl1 : 2 * k < s.size := by have := HN.out; omega
      have hl2 : 2 * k + 1 < s.size := by have := HN.out; omega
      have b1 := byteN_lt s (2 * k)
      have b2 := byteN_lt s (2 * k + 1)
      have i1 := fun W => ixS s (2 * (k : Int)) (2 * k) (by omega) hl1 W
      have i2 := fun W => ixS s (2 * (k : Int) + 1) (2 * k + 1) (by omega) hl2 W
      have HC : Hid (rawC s k = byteN s (2 * k) + 256 * byteN s (2 * k + 1)) := Lib.hid rfl
      have hsz := HS.out.size
      have hcond : (2 * (k : Int)) < s.size := by omega
      generalize byteN s (2 * k) = p at b1 i1 HC
      generalize byteN s (2 * k + 1) = q at b2 i2 HC
      clear hl1 hl2
      have HV : Hid (codC s k = if 32768 ≤ p + 256 * q then (p : Int) + 256 * (q : Int) - 65536 else (p : Int) + 256 * (q : Int)) := Lib.hid (by
        unfold codC
        rw [HC.out]
        by_cases h9 : 32768 ≤ p + 256 * q
        · rw [if_pos h9, if_pos h9]; omega
        · rw [if_neg h9, if_neg h9]; omega)
      by_cases hge : 32768 ≤ p + 256 * q
      · rw [if_pos hge] at HV
        have hg2 : (32768 : Int) ≤ (p : Int) + 256 * (q : Int) := by omega
        go_wp2_with fail
        go_region
        go_wp2_with (at_builtin; refine wpList_app1I rfl (.tmp 38) (.tmp 40) rfl w.heap.size _ (lisC s k) rfl wr.heap.size ((p : Int) + 256 * (q : Int) - 65536) rfl (by simp [go_sem]) (by rw [lisC_len]; omega) (by show w.heap.size ≤ (wr.alloc _).heap.size; simp; omega) (HR.out.alloc _) ?_; intro v' w3 hR3 hS3)
        go_roundw
        case rel => exact ⟨k + 1, by omega, by go_num, by rw [lisC_succ, HV.out]; exact hR3.out, (HS.out.alloc hsz _).drew.trans hS3.out⟩
        case measure => simp [intOf]; omega
      · rw [if_neg hge] at HV
        have hg2 : ¬ (32768 : Int) ≤ (p : Int) + 256 * (q : Int) := by omega
        go_wp2_with fail
        go_region
        generalize hrr : (p : Int) + 256 * (q : Int) = r at hg2 HV ⊢
        clear hrr
        go_wp2_with (at_builtin; refine wpList_app1I rfl (.tmp 38) (.tmp 40) rfl w.heap.size _ (lisC s k) rfl wr.heap.size r rfl (by simp [go_sem]) (by rw [lisC_len]; omega) (by show w.heap.size ≤ (wr.alloc _).heap.size; simp; omega) (HR.out.alloc _) ?_; intro v' w3 hR3 hS3)
        go_roundw
        case rel => exact ⟨k + 1, by omega, by go_num, by rw [lisC_succ, HV.out]; exact hR3.out, (HS.out.alloc hsz _).drew.trans hS3.out⟩
        case measure => simp [intOf]; omega
    · obtain rfl : k = n := by omega
      obtain ⟨p, cp, rfl, hn, hg, ha⟩ := HR.out.done
      rw [lisC_len] at hn
      have HP := Lib.hid hn; have HG := Lib.hid hg; have HAA := Lib.hid ha; clear hg ha hn
      have h5 : ¬ (2 * (k : Int)) < s.size := by have := HN.out; omega
      go_wp2
      go_ret2
      exact ⟨p, cp, rfl, HP.out, HG.out, HAA.out, HS.out⟩
theorem specCodesB_no (s : ByteArray) (w : World) (hs : s.size ≤ 1048576) (h : ¬ (s.size % 2 = 0 ∧ s.size ≤ 512)) :
    Calls Try.prog 9 #[.string s] w (PJB 0 [] false w) := by
  by_cases h0 : ((s.size : Int) % 2) = 0
  · have h1 : (512 : Int) < s.size := by omega
    clear h
    go_enter Try.func9, Try.ntmps9
    go_wp2
    go_ret2
    exact PJB.none_ (World.Since.refl _ _)
  · clear h
    go_enter Try.func9, Try.ntmps9
    go_wp2
    go_ret2
    exact PJB.none_ (World.Since.refl _ _)
theorem implCodesB_no (s : ByteArray) (w : World) (hs : s.size ≤ 1048576) (h : ¬ (s.size % 2 = 0 ∧ s.size ≤ 512)) :
    Calls Try.prog 10 #[.string s] w (PJB 0 [] false w) := by
  by_cases h0 : ((s.size : Int) % 2) = 0
  · have h1 : (256 : Int) < (s.size : Int) / 2 := by omega
    clear h
    go_enter Try.func10, Try.ntmps10
    go_wp2
    go_ret2
    exact PJB.none_ (World.Since.refl _ _)
  · clear h
    go_enter Try.func10, Try.ntmps10
    go_wp2
    go_ret2
    exact PJB.none_ (World.Since.refl _ _)
set_option maxHeartbeats 4000000 in
set_option maxRecDepth 100000 in
theorem implCodesB_ok (s : ByteArray) (n : Nat) (w : World) (hn : s.size = 2 * n) (h : n ≤ 256) :
    Calls Try.prog 10 #[.string s] w (PJB n (lisC s n) true w) := by
  have HN := Lib.hid hn
  have h0 : ((s.size : Int) % 2) = 0 := by omega
  have hq : (s.size : Int) / 2 = (n : Int) := by omega
  have h1 : ¬ (256 : Int) < n := by omega
  have h2 : s.size ≤ 512 := by omega
  have hmk := fun W => run_make_row' (P := Try.prog) 22 2 (.int .i64 0) 8 Try.underlying22 Try.infoI rfl .i64 .i64 n (by omega) (by omega) W
  clear hn
  go_enter Try.func10, Try.ntmps10
  go_wp2
  go_loopw [24] (fun i wr => ∃ k : Nat, k ≤ n ∧ i = .int .i64 (k : Nat) ∧ GF wr w.heap.size 2 n (fun j => .int .i64 (if j < k then codC s j else 0)) ∧ w.Since w.heap.size wr) (fun i _ => n - (intOf i).toNat)
  case atStart => exact ⟨0, Nat.zero_le _, rfl, madeI s w n, (World.Since.refl _ _).alloc (Nat.le_refl _) _⟩
  case round =>
    obtain ⟨k, hk, rfl, hg, hs⟩ := hrel
    have HG := Lib.hid hg; have HS := Lib.hid hs
    clear hg hs
    by_cases hlt : k < n
    · have hl1 : 2 * k < s.size := by have := HN.out; omega
      have hl2 : 2 * k + 1 < s.size := by have := HN.out; omega
      have b1 := byteN_lt s (2 * k)
      have b2 := byteN_lt s (2 * k + 1)
      have i1 := fun W => ixS s (2 * (k : Int)) (2 * k) (by omega) hl1 W
      have i2 := fun W => ixS s (2 * (k : Int) + 1) (2 * k + 1) (by omega) hl2 W
      have HC : Hid (rawC s k = byteN s (2 * k) + 256 * byteN s (2 * k + 1)) := Lib.hid rfl
      have hd := HG.out.cell hlt
      have hf := HG.out.free k
      generalize byteN s (2 * k) = p at b1 i1 HC
      generalize byteN s (2 * k + 1) = q at b2 i2 HC
      clear hl1 hl2
      go_wp2_with fail
      go_region
      go_wp2
      go_roundw
      case rel =>
        refine ⟨k + 1, by omega, by go_num, (HG.out.set k _).congr (fun j hj => ?_), (HS.out.setCell (Nat.le_refl _) _).drew⟩
        show (if j = k then _ else _) = Value.int .i64 (if j < k + 1 then codC s j else 0)
        by_cases e : j = k
        · subst e
          rw [if_pos rfl, if_pos (by omega)]
          unfold codC
          rw [tabC q b2 p b1, HC.out]
          by_cases h9 : 32768 ≤ p + 256 * q
          · rw [if_pos h9, if_pos h9]; exact congrArg _ (by omega)
          · rw [if_neg h9, if_neg h9]; exact congrArg _ (by omega)
        · rw [if_neg e]
          by_cases e2 : j < k
          · rw [if_pos e2, if_pos (by omega)]
          · rw [if_neg e2, if_neg (by omega)]
      case measure => simp [intOf]; omega
    · obtain rfl : k = n := by omega
      go_wp2
      go_ret2
      exact ⟨⟨some ⟨w.heap.size, 0, none⟩, k, lisC s k⟩, k, rfl, rfl, igsI (HG.out.congr fun j hj => by rw [if_pos hj]) (lisC_len _ _) (fun j hj => lisC_at s hj), rfl, HS.out⟩
end Go.Proofs.Ytbncjdeplbafiaa
