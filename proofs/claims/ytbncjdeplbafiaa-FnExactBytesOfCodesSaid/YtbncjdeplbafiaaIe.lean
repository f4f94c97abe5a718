/- Bytes of codes, of both. -/
import Derived.Test.YtbncjdeplbafiaaIb
import Derived.Test.YtbncjdeplbafiaaJi
import Derived.Laws.IdiomStrings
set_option linter.unusedVariables false
set_option linter.unusedSimpArgs false
namespace Go.Proofs.Ytbncjdeplbafiaa
open Fl Go.RowKit
theorem u8_back (n : Nat) (h : n < 256) : (UInt8.ofNat n).toNat = n := by
  rw [UInt8.toNat_ofNat']; omega
theorem and255 (z : Int) : bits BinOp.and IntKind.i64 z 255 = z % 256 := by
  have hb : (BitVec.ofInt 64 255).toNat = 255 := by decide
  have ha : (BitVec.ofInt 64 z).toNat = (z % 18446744073709551616).toNat := by rw [BitVec.toNat_ofInt]; rfl
  have hw : ∀ n : Nat, n < 256 → IntKind.i64.wrap (n : Int) = n := fun n h => by rw [IntKind.wrap_i64]; omega
  show IntKind.i64.wrap (((BitVec.ofInt 64 z &&& BitVec.ofInt 64 255).toNat : Nat) : Int) = _
  rw [BitVec.toNat_and, ha, hb]
  have e : ∀ n : Nat, n &&& 255 = n % 256 := fun n => Nat.and_two_pow_sub_one_eq_mod n 8
  rw [e, hw _ (Nat.mod_lt _ (by decide))]
  omega
/-- bytes, as numbers and as they are -/
def u8l (bs : List Int) : List Value := bs.map fun b => Value.int .u8 b
def byl (bs : List Int) : List UInt8 := bs.map fun b => UInt8.ofNat b.toNat
def Bytes (bs : List Int) : Prop := ∀ b ∈ bs, 0 ≤ b ∧ b < 256
/-- a row of bytes of a loop's own, which is not nil -/
def RwB (lo : Nat) (w : World) (v : Value) (n : Nat) (bs : List Int) : Prop := w.ownsRow lo 5 1 v n (u8l bs) ∧ v ≠ .slice none 0 0
theorem RwB.start (w : World) (lo : Nat) (h : lo ≤ w.heap.size) : RwB lo (w.alloc (.cells #[] 5)) (.slice (some ⟨w.heap.size, 0, none⟩) 0 0) 0 [] :=
  ⟨⟨rfl, .inr ⟨w.heap.size, 0, #[], rfl, h, Go.Deep.blk_alloc_new _ _, Nat.le_refl _, Nat.zero_le _, rfl, rfl⟩⟩, by simp⟩
theorem RwB.made (w : World) (lo c : Nat) (h : lo ≤ w.heap.size) (hc : c ≤ 1048576) : RwB lo (w.alloc (.cells (madeCells #[Value.int .u8 0] c) 5)) (.slice (some ⟨w.heap.size, 0, none⟩) 0 c) 0 [] :=
  ⟨⟨rfl, .inr ⟨w.heap.size, c, _, rfl, h, Go.Deep.blk_alloc_new _ _, Nat.zero_le _, by unfold maxLen; omega, by unfold madeCells; simp, by simp [u8l]⟩⟩, by simp⟩
theorem RwB.since {lo n : Nat} {w w' : World} {v : Value} {bs : List Int} (h : RwB lo w v n bs) (s : w.Since w.heap.size w') : RwB lo w' v n bs := by
  obtain ⟨⟨h1, h2⟩, h3⟩ := h
  refine ⟨⟨h1, ?_⟩, h3⟩
  rcases h2 with h2 | ⟨g, cap, cur, e1, h3, h4, r⟩
  · exact .inl h2
  · exact .inr ⟨g, cap, cur, e1, h3, (s.block g (Array.getElem?_eq_some_iff.1 h4).1).trans h4, r⟩
theorem RwB.alloc {lo n : Nat} {w : World} {v : Value} {bs : List Int} (h : RwB lo w v n bs) (o : Obj) : RwB lo (w.alloc o) v n bs := h.since ((World.Since.refl _ _).alloc (Nat.le_refl _) _)
/-- what the conversion of such a row gives -/
theorem RwB.done {lo n : Nat} {w : World} {v : Value} {bs : List Int} (h : RwB lo w v n bs) (hb : Bytes bs) : ∃ (g cap : Nat), v = .slice (some ⟨g, 0, none⟩) n cap ∧ (convert 33 9 (.slice (some ⟨g, 0, none⟩) n cap)).run Try.prog w = .ok (.string ⟨(byl bs).toArray⟩) w := by
  obtain ⟨⟨h1, h2⟩, h3⟩ := h
  rcases h2 with ⟨h4, _⟩ | ⟨g, cap, cur, rfl, _, h4, _, _, hz, ht⟩
  · exact absurd h4 h3
  · refine ⟨g, cap, rfl, ?_⟩
    have hl : (byl bs).length = n := by simpa [byl, u8l] using h1
    have hlb : bs.length = n := by simpa [byl] using hl
    have hc := run_convert_bytes_back (P := Try.prog) w 33 9 5 ⟨g, 0, none⟩ cap (byl bs) Try.underlying33 Try.underlying5 Try.underlying9 (fun j hj => by
      have hjn : j < n := by omega
      have hjb : j < bs.length := by omega
      have e1 : w.cell? ((⟨g, 0, none⟩ : Addr).add j) = cur[j]? := by
        rw [Go.WideShapes.add_plain, Nat.zero_add]
        simp [World.cell?, h4]
      rw [e1, ← Array.getElem?_toList]
      have e2 : cur.toList[j]? = (cur.toList.take (n * 1))[j]? := by rw [List.getElem?_take, if_pos (by omega)]
      rw [e2, ht]
      have hbb := hb bs[j] (List.getElem_mem hjb)
      have e3 : (byl bs)[j]'hj = UInt8.ofNat bs[j].toNat := by simp [byl]
      rw [e3, u8_back _ (by omega)]
      unfold u8l
      rw [List.getElem?_map, List.getElem?_eq_getElem hjb]
      show some (Value.int .u8 bs[j]) = some (Value.int .u8 ((bs[j].toNat : Nat) : Int))
      rw [Int.toNat_of_nonneg hbb.1])
    rw [hl] at hc
    exact hc
theorem Try.infoB : (Try.prog.info? 5).map (fun i => (i.zero, i.size, i.bytes)) = some (some (.int .u8 0), 1, 1) := by kernel_rfl
theorem wpList_appB {ops : Array Oper} {rest : List Oper} {o : Oper} {a : Act} {Q : Exit → Act → World → Prop} {w : World} (hgd : o.guard = none) (s x : Operand)
    (ho : o.op = .call { callee := .builtin .append, args := #[s, x], argTypes := #[33, 33] }) (lo : Nat) (v : Value) (n : Nat) (bs : List Int) (hs : a.eval s = v) (b m c : Nat) (news : List Int)
    (hx : a.eval x = .slice (some ⟨b, 0, none⟩) m c) (hm : news.length = m) (hc : ∀ j u, (u8l news)[j]? = some u → w.cell? ⟨b, j, none⟩ = some u) (hk : n + m < 1048576) (hlo : lo ≤ w.heap.size) (hR : RwB lo w v n bs)
    (h : ∀ v' w', Hid (RwB lo w' v' (n + m) (bs ++ news)) → Hid (w.Since lo w') → wpList Try.prog ops Q rest (a.put o.dst v') w') : wpList Try.prog ops Q (o :: rest) a w := by
  obtain ⟨h1, hnn⟩ := hR
  obtain ⟨i0, hi, hz0, hz1, hz2⟩ := info_parts Try.infoB
  refine wpList_append_own (P := Try.prog) w hgd s x 33 ho lo 5 i0 (.int .u8 0) 1 1 Try.underlying33 hi hz0 hz1 hz2 rfl (by omega) v n (u8l bs) hs h1 ⟨b, 0, none⟩ m c (u8l news) hx (by simp [u8l, hm]) ?_ ?_ ?_ ?_ hlo ?_
  · intro j u hj
    rw [Go.WideShapes.add_plain, Nat.zero_add]
    exact hc j u hj
  · intro u hu; obtain ⟨y, _, rfl⟩ := List.mem_map.1 hu; rfl
  · unfold maxLen; omega
  · omega
  · intro v' w' hown hg hnil
    refine h v' w' (Lib.hid ⟨?_, fun e => hnn (hnil.1 e).1⟩) (Lib.hid ⟨hg.os, hg.tape, hg.output, hg.size, fun i hi => ?_⟩)
    · show w'.ownsRow lo 5 1 v' (n + m) (u8l (bs ++ news))
      rw [show u8l (bs ++ news) = u8l bs ++ u8l news by simp [u8l]]; exact hown
    · refine hg.block i (by omega) fun e => ?_
      have := own_lo h1 i e.symm
      omega
theorem one_at {w : World} {b : Nat} {x : Int} (h : w.cell? ⟨b, 0, none⟩ = some (.int .u8 x)) : ∀ j u, (u8l [x])[j]? = some u → w.cell? ⟨b, j, none⟩ = some u
  | 0, u, hj => by rw [h]; exact hj
  | j + 1, u, hj => by simp [u8l] at hj
theorem two_at {w : World} {b : Nat} {x y : Int} (h : w.cell? ⟨b, 0, none⟩ = some (.int .u8 x)) (h2 : w.cell? ⟨b, 1, none⟩ = some (.int .u8 y)) : ∀ j u, (u8l [x, y])[j]? = some u → w.cell? ⟨b, j, none⟩ = some u
  | 0, u, hj => by rw [h]; exact hj
  | 1, u, hj => by rw [h2]; exact hj
  | j + 2, u, hj => by simp [u8l] at hj
/-- the two bytes of a code -/
def loB (c : Int) : Int := c % 256
def hiB (c : Int) : Int := (c / 256) % 256
def bysL (xs : List Int) : Nat → List Int
  | 0 => []
  | k + 1 => bysL xs k ++ [loB (wi xs k), hiB (wi xs k)]
theorem bysL_bytes (xs : List Int) : ∀ n, Bytes (bysL xs n)
  | 0 => fun b hb => by cases hb
  | n + 1 => fun b hb => by
    rcases List.mem_append.1 hb with h | h
    · exact bysL_bytes xs n b h
    · simp only [List.mem_cons, List.mem_nil_iff, or_false] at h
      unfold loB hiB at h
      omega
def PTB (s : ByteArray) (b : Bool) (w : World) (e : Ending) (w' : World) : Prop := e = .returned (.tuple #[.string s, .bool b]) ∧ w.Since w.heap.size w'
set_option maxHeartbeats 4000000 in
set_option maxRecDepth 100000 in
theorem specBytesB_ok (A : Option Addr) (n c : Nat) (xs : List Int) (w : World) (hA : Is w w.heap.size A n xs) (hn : n ≤ 256) (hc : areC 32768 xs n) :
    Calls Try.prog 5 #[.slice A n c] w (PTB ⟨(byl (bysL xs n)).toArray⟩ true w) := by
  have HA := Lib.hid hA; have HC := Lib.hid hc
  have HQ := Lib.hid (specCodes_b 16 A n c xs w hA (by omega) (by omega) (by omega) true ⟨fun _ => ⟨hn, hc⟩, fun _ => rfl⟩)
  clear hA hc
  unfold PTB
  go_enter Try.func5, Try.ntmps5
  go_wp2_with (go_at_call 13; refine HQ.out.mono ?_; rintro e w2 ⟨rfl, hs⟩)
  have HS0 := Lib.hid hs; clear hs HQ
  have hz0 := HS0.out.size
  go_loopw [4, 5] (fun v i wr => ∃ k : Nat, k ≤ n ∧ i = .int .i64 (k : Nat) ∧ RwB w.heap.size wr v (2 * k) (bysL xs k) ∧ w.Since w.heap.size wr) (fun _ i _ => n - (intOf i).toNat)
  case atStart => exact ⟨0, Nat.zero_le _, rfl, RwB.start w2 _ hz0, HS0.out.alloc hz0 _⟩
  case round =>
    obtain ⟨k, hk, rfl, hr, hs⟩ := hrel
    have HR := Lib.hid hr; have HS := Lib.hid hs
    clear hr hs
    have hsz := HS.out.size
    by_cases hlt : k < n
    · obtain ⟨g, off, rfl, hg, hc⟩ := HA.out.2 (by omega)
      have hcell : wr.cell? ⟨g, off + k, none⟩ = some (.int .i64 (wi xs k)) := (HS.out.cell (a := ⟨g, off + k, none⟩) hg).trans (hc k hlt)
      obtain ⟨z, hz⟩ : ∃ z, z = wi xs k := ⟨_, rfl⟩
      rw [← hz] at hcell
      have HZ : Hid (wi xs k = z) := Lib.hid hz.symm
      clear hc hz
      have ha := fun z => and255 z
      go_wp2_with (first | (at_builtin; refine wpList_appB rfl (.tmp 25) (.tmp 33) rfl w.heap.size _ (2 * k + 1) (bysL xs k ++ [z % 256]) rfl w3.heap.size 1 1 [z / 256 % 256] rfl rfl (one_at (by simp [go_sem])) (by omega) (by show w.heap.size ≤ (w3.alloc _).heap.size; simp; omega) (hR3.out.alloc _) ?_; intro v2 w4 hR4 hS4) | (at_builtin; refine wpList_appB rfl (.tmp 16) (.tmp 23) rfl w.heap.size _ (2 * k) (bysL xs k) rfl wr.heap.size 1 1 [z % 256] rfl rfl (one_at (by simp [go_sem])) (by omega) (by show w.heap.size ≤ (wr.alloc _).heap.size; simp; omega) (HR.out.alloc _) ?_; intro v' w3 hR3 hS3; have hz4 : w.heap.size ≤ w3.heap.size := Nat.le_trans (Nat.le_trans hsz (by simp)) hS3.out.size; have hcell3 := (hS3.out.cell (a := ⟨g, off + k, none⟩) hg).trans ((((World.Since.refl w.heap.size wr).alloc hsz _).cell (a := ⟨g, off + k, none⟩) hg).trans hcell)))
      go_roundw
      case rel =>
        refine ⟨k + 1, by omega, by go_num, ?_, (((HS.out.alloc hsz _).trans hS3.out).alloc hz4 _).trans hS4.out⟩
        have h9 := hR4.out
        rw [List.append_assoc] at h9
        have e9 : bysL xs (k + 1) = bysL xs k ++ ([z % 256] ++ [z / 256 % 256]) := by show bysL xs k ++ [loB (wi xs k), hiB (wi xs k)] = _; rw [HZ.out]; rfl
        rw [e9]
        exact h9
      case measure => simp [intOf]; omega
    · obtain rfl : k = n := by omega
      obtain ⟨g, cap, rfl, hcv⟩ := HR.out.done (bysL_bytes xs k)
      go_wp2
      go_ret2
      exact ⟨rfl, HS.out⟩
theorem specBytesB_no (A : Option Addr) (n c : Nat) (xs : List Int) (w : World) (hA : Is w w.heap.size A n xs) (hn : n ≤ 1048576) (hc : ¬ (n ≤ 256 ∧ areC 32768 xs n)) :
    Calls Try.prog 5 #[.slice A n c] w (PTB ⟨#[]⟩ false w) := by
  have HQ := Lib.hid (specCodes_b 16 A n c xs w hA hn (by omega) (by omega) false ⟨fun h => (by cases h), fun h => absurd h hc⟩)
  clear hA hc
  unfold PTB
  go_enter Try.func5, Try.ntmps5
  go_wp2_with (go_at_call 13; refine HQ.out.mono ?_; rintro e w2 ⟨rfl, hs⟩)
  go_ret2
  exact ⟨rfl, hs⟩
theorem coder16 (w : World) : Calls Try.prog 14 #[.int .i64 16] w (PC (codV 32768) true w) := coderOf_ok 16 w (by omega) (by omega)
theorem implBytesB_no (A : Option Addr) (n c : Nat) (xs : List Int) (w : World) (hA : Is w w.heap.size A n xs) (hn : n ≤ 1048576) (hc : ¬ (n ≤ 256 ∧ areC 32768 xs n)) :
    Calls Try.prog 7 #[.slice A n c] w (PTB ⟨#[]⟩ false w) := by
  have HA := Lib.hid hA
  have HQ := Lib.hid (fun W (s : w.Since w.heap.size W) => areCodes_b 32768 A n c xs false W W.heap.size (HA.out.now s) (Nat.le_refl _) hn ⟨fun h => (by cases h), fun h => absurd h hc⟩)
  have HK := Lib.hid coder16
  unfold PC codV at HK
  unfold codV at HQ
  obtain ⟨f, hf⟩ : ∃ f, f = floatOfInt .f32 ((32768 : Nat) : Int) := ⟨_, rfl⟩
  rw [← hf] at HK HQ; clear hf hA hc
  unfold PTB
  go_enter Try.func7, Try.ntmps7
  go_wp2_with (first | (go_at_call 14; refine (HK.out _).mono ?_; rintro e w2 ⟨rfl, hs⟩; have HS2 := Lib.hid hs; clear hs) | (go_at_call 15; refine (HQ.out _ (by have h2 := HS2.out; first | exact h2 | exact h2.alloc h2.size _)).mono ?_; rintro e w3 ⟨rfl, hs3⟩; have HS3 := Lib.hid hs3; clear hs3))
  go_ret2
  exact ⟨rfl, by have h2 := HS2.out; have h3 := HS3.out; first | exact since_step h2 h3 | exact since_step (h2.alloc h2.size _) h3⟩
set_option maxHeartbeats 4000000 in
set_option maxRecDepth 100000 in
theorem implBytesB_ok (A : Option Addr) (n c : Nat) (xs : List Int) (w : World) (hA : Is w w.heap.size A n xs) (hn : n ≤ 256) (hc : areC 32768 xs n) :
    Calls Try.prog 7 #[.slice A n c] w (PTB ⟨(byl (bysL xs n)).toArray⟩ true w) := by
  have HA := Lib.hid hA; have HC := Lib.hid hc
  have HQ := Lib.hid (fun W (s : w.Since w.heap.size W) => areCodes_b 32768 A n c xs true W W.heap.size (HA.out.now s) (Nat.le_refl _) (by omega) ⟨fun _ => ⟨hn, hc⟩, fun _ => rfl⟩)
  have HK := Lib.hid coder16
  unfold PC codV at HK
  unfold codV at HQ
  obtain ⟨f, hf⟩ : ∃ f, f = floatOfInt .f32 ((32768 : Nat) : Int) := ⟨_, rfl⟩
  rw [← hf] at HK HQ; clear hf hA hc
  obtain ⟨i0, hi, hz0, hz1, hz2⟩ := info_parts Try.infoB
  have hmk := fun W => run_make (P := Try.prog) W 33 5 i0 (.int .u8 0) Try.underlying33 hi hz0 .i64 .i64 0 (2 * (n : Int)) (by omega) (by omega) (by rw [hz2]; omega) (by omega)
  have ht : (2 * (n : Int)).toNat = 2 * n := by omega
  have hzc : (Value.int .u8 0).cells = #[Value.int .u8 0] := by rfl
  simp only [ht, hz1, hzc, Nat.mul_one, Int.toNat_zero] at hmk
  clear hi hz0 hz1 hz2 ht hzc
  unfold PTB
  go_enter Try.func7, Try.ntmps7
  go_wp2_with (first | (go_at_call 14; refine (HK.out _).mono ?_; rintro e w2 ⟨rfl, hs⟩; have HS2 := Lib.hid hs; clear hs) | (go_at_call 15; refine (HQ.out _ (by have h2 := HS2.out; first | exact h2 | exact h2.alloc h2.size _)).mono ?_; rintro e w3 ⟨rfl, hs3⟩; have HS3 := Lib.hid hs3; clear hs3))
  have HS0 : Hid (w.Since w.heap.size w3) := Lib.hid (by have h2 := HS2.out; have h3 := HS3.out; first | exact since_step h2 h3 | exact since_step (h2.alloc h2.size _) h3)
  have hz0 := HS0.out.size
  go_loopw [6, 27] (fun v i wr => ∃ k : Nat, k ≤ n ∧ i = .int .i64 (k : Nat) ∧ RwB w.heap.size wr v (2 * k) (bysL xs k) ∧ w.Since w.heap.size wr) (fun _ i _ => n - (intOf i).toNat)
  case atStart => exact ⟨0, Nat.zero_le _, rfl, RwB.made w3 _ _ hz0 (by omega), HS0.out.alloc hz0 _⟩
  case round =>
    obtain ⟨k, hk, rfl, hr, hs⟩ := hrel
    have HR := Lib.hid hr; have HS := Lib.hid hs
    clear hr hs
    have hsz := HS.out.size
    by_cases hlt : k < n
    · obtain ⟨g, off, rfl, hg, hc⟩ := HA.out.2 (by omega)
      have hcell : wr.cell? ⟨g, off + k, none⟩ = some (.int .i64 (wi xs k)) := (HS.out.cell (a := ⟨g, off + k, none⟩) hg).trans (hc k hlt)
      obtain ⟨z, hz⟩ : ∃ z, z = wi xs k := ⟨_, rfl⟩
      rw [← hz] at hcell
      have HZ : Hid (wi xs k = z) := Lib.hid hz.symm
      clear hc hz
      go_wp2_with (at_builtin; refine wpList_appB rfl (.tmp 31) (.tmp 37) rfl w.heap.size _ (2 * k) (bysL xs k) rfl wr.heap.size 2 2 [z % 256, z / 256 % 256] rfl rfl (two_at (by simp [go_sem]) (by simp [go_sem])) (by omega) (by show w.heap.size ≤ (wr.alloc _).heap.size; simp; omega) (HR.out.alloc _) ?_; intro v' w4 hR4 hS4)
      go_roundw
      case rel =>
        refine ⟨k + 1, by omega, by go_num, ?_, (HS.out.alloc hsz _).trans hS4.out⟩
        have e9 : bysL xs (k + 1) = bysL xs k ++ [z % 256, z / 256 % 256] := by show bysL xs k ++ [loB (wi xs k), hiB (wi xs k)] = _; rw [HZ.out]; rfl
        rw [e9]
        exact hR4.out
      case measure => simp [intOf]; omega
    · obtain rfl : k = n := by omega
      obtain ⟨g, cap, rfl, hcv⟩ := HR.out.done (bysL_bytes xs k)
      go_wp2
      go_ret2
      exact ⟨rfl, HS.out⟩
end Go.Proofs.Ytbncjdeplbafiaa
