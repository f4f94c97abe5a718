/- Joined: Jk Zh Zi Zj Zk Zg Zl -/
import Derived.Test.YtbjhioolfighdaaFr
import Derived.Test.YtbjhioolfighdaaIl
import Derived.Test.YtbjhioolfighdaaZz
import Derived.Test.YtbjhioolfighdaaHb
import Derived.Test.YtbjhioolfighdaaMc
/- A slice of integers that came in. -/
set_option linter.unusedVariables false
set_option linter.unusedSimpArgs false
namespace Go.Proofs.Ytbjhioolfighdaa
namespace Fl
open Go.ChangeShapes Go.WideShapes Go.RowKit Go.WideMaps Go.WideElems
section
variable {H : Type} {enc : TypeId × Value → H} {P : Program}
theorem trod_in {w : World} {base : Nat} {spare : Nat → Bool} {held : Bool} {fuel : Nat} {t : TypeId} {k : IntKind} {cs : List Value} {x : DataW H × List MemPlace} (ht : P.underlying t = some (.int k))
    (h : DataW.trod enc P w base spare held fuel t cs = some x) : ∃ b, cs = [.int k b] ∧ (Lit.int k b).wf = true := by
  cases fuel with
  | zero => simp [DataW.trod] at h
  | succ n =>
    unfold DataW.trod at h
    rw [ht] at h
    split at h <;> simp_all
theorem open_is {W : World} {base b0 : Nat} {r : Reach} {t e : TypeId} {v : Value} {d : DataW H} {ps : List MemPlace} (ht : P.underlying t = some (.slice e)) (he : P.underlying e = some (.int .i64)) (hc : P.cellsOf e = 1)
    (hval : Value.okWide P W r b0 t v) (h : DataW.Trod enc P W base (fun _ => true) true t v d ps) :
    ∃ (A : Option Addr) (n c : Nat) (xs : List Int), v = .slice A n c ∧ (Is W W.heap.size A n xs ∧ ∀ k, k < n → (Lit.int .i64 (wi xs k)).wf = true) ∧ n ≤ 9223372036854775807 := by
  obtain ⟨A, n, c, rfl⟩ := okWide_slice ht hval
  obtain ⟨fuel, hf⟩ := h
  rcases Go.Deep.open_slice ht hf with ⟨hcs, _⟩ | ⟨a, len, cap, m, k, D, Pl, hcs, _, hl, hm, hmm, _, hi⟩
  · simp only [Value.cells, Array.toList] at hcs
    injection hcs with hcs _
    injection hcs with h1 h2 h3
    subst h1; subst h2; subst h3
    exact ⟨none, 0, 0, [], rfl, ⟨⟨rfl, (fun h => by omega)⟩, (fun k h => by omega)⟩, by omega⟩
  · simp only [Value.cells, Array.toList] at hcs
    injection hcs with hcs _
    injection hcs with h1 h2 h3
    subst h1; subst h2; subst h3
    rw [if_pos rfl] at hmm
    subst hmm
    have hcell : ∀ i, i < m → ∃ b : Int, W.cell? (a.add i) = some (.int .i64 b) ∧ (Lit.int .i64 b).wf = true := by
      intro i him
      obtain ⟨cs', hcs', htr⟩ := hi i him
      rw [hc, Nat.mul_one] at hcs'
      obtain ⟨_, hlen, hat⟩ := World.cells?_some hcs'
      obtain ⟨b, hb, hw⟩ := trod_in he htr
      have h0 := hat 0 (by omega)
      rw [hb] at h0
      refine ⟨b, ?_, hw⟩
      have e : (a.add i).add 0 = a.add i := by simp [Addr.add]
      rw [e] at h0
      exact h0
    let f : Nat → Int := fun i => if h : i < m then Classical.choose (hcell i h) else 0
    have hfs : ∀ i (h : i < m), W.cell? (a.add i) = some (.int .i64 (f i)) ∧ (Lit.int .i64 (f i)).wf = true := by
      intro i h
      have := Classical.choose_spec (hcell i h)
      simp only [f, dif_pos h]
      exact this
    refine ⟨some a, n, m, (List.range n).map f, rfl, ⟨⟨by simp, ?_⟩, ?_⟩, by unfold maxLen at hm; omega⟩
    · intro hn
      obtain ⟨g, off, spot⟩ := a
      have h0 := (hfs 0 (by omega)).1
      have hspot : spot = none := by simpa [Addr.add] using World.cell?_spot h0
      subst hspot
      refine ⟨g, off, rfl, ?_, fun k hk => ?_⟩
      · have h1 : W.cell? ⟨g, off, none⟩ = some (.int .i64 (f 0)) := by simpa [Addr.add] using h0
        rcases Nat.lt_or_ge g W.heap.size with h2 | h2
        · exact h2
        · simp [World.cell?, Array.getElem?_eq_none h2] at h1
      · have h1 := (hfs k (by omega)).1
        rw [Go.WideShapes.add_plain] at h1
        rw [h1]
        unfold iv wi
        simp [hk]
    · intro k hk
      have h1 := (hfs k (by omega)).2
      unfold wi
      simpa [hk] using h1
end
end Fl
end Go.Proofs.Ytbjhioolfighdaa

/- Moving delays: of the model. -/
set_option linter.unusedVariables false
set_option linter.unusedSimpArgs false
namespace Go.Proofs.Ytbjhioolfighdaa
open Fl Go.RowKit
/-- the numbers of a line of n, and the samples behind it -/
def chS (n : Nat) (xs ys : List Nat) (j : Nat) : O := if j < n then ab .f32 (wd xs j) else ab .f32 (wd ys (j - n))
def chD (ts : List Int) (t a k : Nat) : Nat := (wi ts ((a + k) % t)).toNat
def chY (ts : List Int) (t a n : Nat) (xs ys : List Nat) (mx k : Nat) : O := ad (ab .f32 (wd ys k)) (mu (ab .f32 mx) (chS n xs ys (k + n - chD ts t a k)))
/-- the first k numbers of a table are in a line's limits -/
def chTab (ts : List Int) (n k : Nat) : Prop := ∀ j, j < k → 1 ≤ wi ts j ∧ wi ts j ≤ n
theorem chS_old {n : Nat} {xs ys : List Nat} {j : Nat} (h : j < n) : chS n xs ys j = ab .f32 (wd xs j) := by unfold chS; rw [if_pos h]
theorem chS_new (n : Nat) (xs ys : List Nat) (k : Nat) : chS n xs ys (k + n) = ab .f32 (wd ys k) := by unfold chS; rw [if_neg (by omega)]; congr 2; omega
theorem took_are {n k : Nat} {zs : List Nat} {S : Nat → O} {x : Nat} (hl : zs.length = n) (h : Are' n zs fun i => S (k + i)) (hS : S (k + n) = ab .f32 x) : Are' n (zs.drop 1 ++ [x]) fun i => S (k + 1 + i) := fun i hi => by
  show ab .f32 (wd (zs.drop 1 ++ [x]) i) = S (k + 1 + i)
  rw [wd_app, List.length_drop, hl]
  by_cases e : i < n - 1
  · rw [if_pos e, wd_drop, h (1 + i) (by omega)]
    show S (k + (1 + i)) = _
    rw [Nat.add_assoc]
  · rw [if_neg e, show i - (n - 1) = 0 by omega, show k + 1 + i = k + n by omega, hS]; rfl
set_option maxHeartbeats 8000000 in
set_option maxRecDepth 100000 in
theorem specRunChorus_ok (b0 t : Nat) (ts : List Int) (mx b2 n : Nat) (xs : List Nat) (a b4 m : Nat) (ys : List Nat) (w : World) (h0 : Is w w.heap.size (some ⟨b0, 0, none⟩) t ts) (h2 : Fs w w.heap.size (some ⟨b2, 0, none⟩) n xs) (h4 : Fs w w.heap.size (some ⟨b4, 0, none⟩) m ys)
    (ht : okLen (t : Int) = true) (hn : okLen (n : Int) = true) (hmx : mx < 4294967296) (ha : a ≤ 1000000000000000) (hm : m ≤ 256) (htab : chTab ts n t) :
    Calls Try.prog 23 #[.slice (some ⟨b0, 0, none⟩) t t, .float .f32 mx, .slice (some ⟨b2, 0, none⟩) n n, .int .i64 (a : Nat), .slice (some ⟨b4, 0, none⟩) m m] w (PEEB m (fun k => chY ts t a n xs ys mx k) n (fun i => chS n xs ys (m + i)) true w) := by
  have hfew : decide ((m : Int) ≤ 256) = true := decide_eq_true (by omega)
  have hpl : (decide ((0 : Int) ≤ (a : Int)) && decide ((a : Int) ≤ 1000000000000000)) = true := by simp; omega
  have hn1 : 1 ≤ n ∧ n ≤ 64 := by unfold okLen at hn; simp at hn; omega
  have ht1 : 1 ≤ t ∧ t ≤ 64 := by unfold okLen at ht; simp at ht; omega
  have H0 := Lib.hid h0; have H2 := Lib.hid h2; have H4 := Lib.hid h4; have HT := Lib.hid htab; have HOT := Lib.hid ht; have HON := Lib.hid hn
  have HMX : Hid (Fv .f32 mx (ab .f32 mx)) := Lib.hid ⟨hmx, rfl⟩
  clear h0 h2 h4 htab ht hn
  go_enter Try.func23, Try.ntmps23
  go_wp2_with (first | (go_at_call 28; go_loud (refine (specLen_b _ true _ (by first | exact HOT.out | exact HON.out)).mono ?_); rintro e w' ⟨rfl, rfl⟩) | (go_at_call 49; go_loud (refine (specIn_bt _ _ _ true _ hpl).mono ?_); rintro e w' ⟨rfl, rfl⟩) | (go_at_call 29; refine (specFew_any _ _ _ _ _ hfew).mono ?_; rintro e w' ⟨rfl, rfl⟩))
  go_loopw [41] (fun i wr => ∃ k : Nat, k ≤ t ∧ i = .int .i64 (k : Nat) ∧ w = wr) (fun i _ => t - (intOf i).toNat)
  case atStart => exact ⟨0, Nat.zero_le _, rfl, rfl⟩
  case round =>
    obtain ⟨j, hj, rfl, rfl⟩ := hrel
    by_cases hlt : j < t
    · obtain ⟨g, off, e1, hg, hc⟩ := H0.out.2 (by omega)
      injection e1 with e1; injection e1 with e1 e2 _; subst e1; subst e2
      have c0 := hc j hlt
      simp only [Nat.zero_add, iv] at c0
      have hin : (decide ((1 : Int) ≤ wi ts j) && decide (wi ts j ≤ (n : Int))) = true := by have := HT.out j hlt; simp; omega
      clear hc
      go_wp2_with (first | (go_at_call 49; go_loud (refine (specIn_bt _ _ _ true _ hin).mono ?_); rintro e w' ⟨rfl, rfl⟩))
      go_roundw
      case rel => exact ⟨j + 1, by omega, by go_num, trivial⟩
      case measure => simp [intOf]; omega
    · obtain rfl : j = t := by omega
      go_wp2_with (first | (go_at_call 30; go_loud (refine (specOwn_any _ n _ xs _ H2.out (by omega) (by omega)).mono ?_); rintro e w1 ⟨g1, c1, rfl, hg1, hlo1, hhi1, hs1⟩; have HG1 := Lib.hid hg1; have S1 := Lib.hid hs1; clear hg1 hs1))
      have RW0 := Lib.hid (Rw.start w1 w1.heap.size (Nat.le_refl _) (fun k => chY ts j a n xs ys mx k))
      have SA : Hid (w1.Since w1.heap.size (w1.alloc (.cells #[] 22))) := Lib.hid ((World.Since.refl _ _).alloc (Nat.le_refl _) _)
      go_loopw [15, 58] (fun v i wr => ∃ (k : Nat) (zs : List Nat), k ≤ m ∧ i = .int .i64 (k : Nat) ∧ Rw w1.heap.size wr v k (fun k => chY ts j a n xs ys mx k) ∧ Gs 22 wr w.heap.size (some ⟨g1, 0, none⟩) n zs ∧ Are' n zs (fun i => chS n xs ys (k + i)) ∧ w.Since w.heap.size wr ∧ w1.heap.size ≤ wr.heap.size) (fun _ i _ => m - (intOf i).toNat)
      case atStart => exact ⟨0, xs, Nat.zero_le _, rfl, RW0.out, HG1.out.since SA.out, (fun i hi => by show _ = chS n xs ys (0 + i); rw [Nat.zero_add]; exact (chS_old hi).symm), since_step S1.out SA.out, by simp⟩
      case round =>
        obtain ⟨k, zs, hk, rfl, hr, hg, har, hs, hz⟩ := hrel
        have HR := Lib.hid hr; have HG := Lib.hid hg; have HAR := Lib.hid har; have HS := Lib.hid hs
        clear hr hg har hs RW0 SA
        by_cases hlt : k < m
        · obtain ⟨g, off, e1, hg, hc⟩ := H0.out.2 (by omega)
          injection e1 with e1; injection e1 with e1 e2 _; subst e1; subst e2
          obtain ⟨p, hp⟩ : ∃ p, p = (a + k) % j := ⟨_, rfl⟩
          have hpj : p < j := by rw [hp]; exact Nat.mod_lt _ (by omega)
          have c0 := (HS.out.cell (a := ⟨b0, 0 + p, none⟩) hg).trans (hc p hpj)
          simp only [Nat.zero_add, iv] at c0
          obtain ⟨d, hd, hd1, hdn⟩ : ∃ d : Nat, wi ts p = (d : Int) ∧ 1 ≤ d ∧ d ≤ n := ⟨(wi ts p).toNat, by have := HT.out p hpj; omega, by have := HT.out p hpj; omega, by have := HT.out p hpj; omega⟩
          rw [hd] at c0
          have HY : Hid (chY ts j a n xs ys mx k = ad (ab .f32 (wd ys k)) (mu (ab .f32 mx) (chS n xs ys (k + (n - d))))) := Lib.hid (by
            unfold chY chD
            rw [← hp, hd, show k + n - (d : Int).toNat = k + (n - d) by omega])
          obtain ⟨g4, o4, e4, hg4, hc4⟩ := H4.out.2.2 (by omega)
          injection e4 with e4; injection e4 with e4 e5 _; subst e4; subst e5
          have c4 := (HS.out.cell (a := ⟨b4, 0 + k, none⟩) hg4).trans (hc4 k hlt)
          simp only [Nat.zero_add, fv] at c4
          obtain ⟨g5, o5, e5, hg5, hc5⟩ := HG.out.read.2.2 (by omega)
          injection e5 with e5; injection e5 with e5 e6 _; subst e5; subst e6
          have c5 := hc5 (n - d) (by omega)
          simp only [Nat.zero_add, fv] at c5
          have hzv : Hid (Fv .f32 (wd zs (n - d)) (chS n xs ys (k + (n - d)))) := Lib.hid ⟨HG.out.read.2.1.at_ _, HAR.out _ (by omega)⟩
          have hyv : Hid (Fv .f32 (wd ys k) (ab .f32 (wd ys k))) := Lib.hid ⟨H4.out.2.1.at_ k, rfl⟩
          have hI : ((a : Int) + (k : Int)) % (j : Int) = (p : Int) := by rw [hp, Int.natCast_emod, Int.natCast_add]
          have b1 : (0 : Int) ≤ (a : Int) + (k : Int) := by omega
          have b3 : (0 : Int) < (j : Int) := by omega
          have hI2 : (n : Int) - (d : Int) = ((n - d : Nat) : Int) := by omega
          have hnd : n - d < n := by omega
          clear hc hc4 hc5 hd hp
          go_wp2_with (first | (with_reducible_and_instances refine Lo.wpList_fo _ rfl _ _ _ _ _ rfl _ _ _ _ _ rfl rfl rfl (by assumption) (by assumption) ?_; intro rr nn hrr) | (at_builtin; go_loud (refine wpList_app1 rfl (.tmp 77) (.tmp 86) rfl w1.heap.size _ k (fun k => chY ts j a n xs ys mx k) rfl _ rr rfl (by simp [go_sem]) (by omega) (by simp; omega) (by show Hid (Fv _ _ (chY ts j a n xs ys mx k)); rw [HY.out]; exact hrr) ((HR.out.alloc _).drewN _) ?_); intro v' w4 hR4 hS4; have HS4 : Hid (wr.Since w1.heap.size w4) := Lib.hid ((since_drewN ((World.Since.refl _ _).alloc hz _) _).trans hS4.out); have c6 := (HS4.out.cell (a := ⟨b4, k, none⟩) (by show b4 < w1.heap.size; have := S1.out.size; omega)).trans c4) | (go_at_call 50; go_loud (refine (specTake_any g1 n c1 zs (wd ys k) _ w.heap.size (Gs.under HG.out HS4.out hhi1) (by omega) (by omega) hyv.out.1).mono ?_); rintro e w5 ⟨rfl, hg5, ho5⟩; have HG5 := Lib.hid hg5; have HO5 := Lib.hid ho5; clear hg5 ho5))
          go_roundw
          case rel =>
            have q1 := HS4.out.size
            have q2 := HO5.out.1.size
            have q3 := S1.out.size
            exact ⟨k + 1, _, by omega, by go_num, hR4.out.on HO5.out hhi1, HG5.out, took_are HG.out.1 HAR.out (chS_new n xs ys k), (HS.out.trans (since_mono HS4.out (by omega))).trans (HO5.out.since hlo1), by omega⟩
          case measure => simp [intOf]; omega
        · obtain rfl : k = m := by omega
          have HU := Lib.hid HR.out.under
          obtain ⟨A4, c4, os, rfl, _, _, hA4, hg4, ha4⟩ := HR.out.end_
          have G4 := Lib.hid hg4; have AA4 := Lib.hid ha4; have HA4 := Lib.hid hA4
          clear hg4 ha4 HR hA4
          go_wp2
          go_ret3
          refine ⟨⟨A4, k, os⟩, ⟨some ⟨g1, 0, none⟩, n, zs⟩, c4, c1, rfl, rfl, rfl, (G4.out.less S1.out.size).toE, HG.out.toE, AA4.out, HAR.out, De.of_apart (c := c4) (d := c1) (fun b h1 h2 => ?_), HS.out⟩
          have e : g1 = b := by simpa [Value.ownBlock] using h2
          cases A4 with
          | none => simp [Value.ownBlock] at h1
          | some ad =>
            obtain ⟨g', e1, h3⟩ := HA4.out _ rfl
            subst e1
            have e3 : g' = b := by simpa [Value.ownBlock] using h1
            omega
end Go.Proofs.Ytbjhioolfighdaa

/- Moving delays: of the program. -/
set_option linter.unusedVariables false
set_option linter.unusedSimpArgs false
namespace Go.Proofs.Ytbjhioolfighdaa
open Fl Go.RowKit
/-- blocks from g on may change, but those from lo on not -/
def Mid (g lo : Nat) (w w' : World) : Prop := w.Since g w' ∧ ∀ b, lo ≤ b → b < w.heap.size → w'.heap[b]? = w.heap[b]?
theorem GCells.mid {w w' : World} {g gr lo n : Nat} {f : Nat → Value} (h : GCells w g n f) (o : Mid gr lo w w') (hl : lo ≤ g) : GCells w' g n f := by
  have hlt := h.lt
  obtain ⟨cs, hb, hc⟩ := h
  exact ⟨cs, (o.2 g hl hlt).trans hb, hc⟩
set_option maxHeartbeats 2000000 in
set_option maxRecDepth 100000 in
theorem results_mid (A : Option Addr) (n c : Nat) (xs : List Nat) (F : FuncId) (caps : Array Value) (gr : Nat) (I : Nat → World → Prop) (Y : Nat → Option Nat) (w : World) (h : Fs w gr A n xs) (hgr : gr < w.heap.size) (hn : n ≤ 256)
    (hent : ∀ args w, (callFunc F args).run Try.prog w = .ok (.enter F args) w)
    (hI : ∀ k W W', I k W → w.heap.size ≤ W.heap.size → W.heap.size ≤ W'.heap.size → (∀ b, b < w.heap.size → W'.heap[b]? = W.heap[b]?) → I k W')
    (hstep : ∀ k q W, k < n → q = wd xs k → I k W → w.heap.size ≤ W.heap.size → Calls Try.prog F (#[.float .f32 q] ++ caps) W fun e W' => ∃ r, e = .returned (.float .f32 r) ∧ Hid (Fv .f32 r (Y k)) ∧ I (k + 1) W' ∧ Mid gr w.heap.size W W')
    (h0 : I 0 w) :
    Calls Try.prog 43 #[.slice A n c, .func (.func F) #[] caps] w fun e w' => ∃ ys, e = .returned (.slice (some ⟨w.heap.size, 0, none⟩) n n) ∧ Gs 22 w' w.heap.size (some ⟨w.heap.size, 0, none⟩) n ys ∧ Are' n ys Y ∧ I n w' ∧ w.Since gr w' := by
  have H := Lib.hid h
  have hmk := fun W => run_make_row' (P := Try.prog) 25 22 (.float .f32 0) 4 Try.underlying25 Try.infoF rfl .i64 .i64 n (by omega) (by omega) W
  have HI := Lib.hid hI; have HST := Lib.hid hstep; have H0 := Lib.hid h0; have HGR : gr < w.heap.size := hgr
  clear h hI hstep h0
  go_enter Try.func43, Try.ntmps43
  go_wp2
  go_loopw [13] (fun i wr => ∃ (k : Nat) (r : Nat → Nat), k ≤ n ∧ i = .int .i64 k ∧ GCells wr w.heap.size n (partial_ k r) ∧ (∀ j, j < k → Hid (Fv .f32 (r j) (Y j))) ∧ I k wr ∧ w.Since gr wr) (fun i _ => n - (intOf i).toNat)
  case atStart =>
    have hr := (World.rowIs_made w (.float .f32 0) n 22)
    obtain ⟨cs, hb, _, hc⟩ := hr
    exact ⟨0, fun _ => 0, Nat.zero_le _, rfl, ⟨cs, hb, fun j hj => hc j hj⟩, fun j hj => by omega, HI.out 0 _ _ H0.out (Nat.le_refl _) (by simp) (fun b hb => ((World.Since.refl w.heap.size w).alloc (Nat.le_refl _) _).block b hb), (World.Since.refl gr w).alloc (by omega) _⟩
  case round =>
    obtain ⟨k, r, hk, rfl, hcs, hr, hi, hon⟩ := hrel
    have HC := Lib.hid hcs; have HR := Lib.hid hr; have HIK := Lib.hid hi; have HON := Lib.hid hon
    have hsz : w.heap.size < wr.heap.size := hcs.lt
    clear hcs hr hi hon
    by_cases hlt : k < n
    · obtain ⟨g, off, rfl, hg, hc⟩ := H.out.2.2 (by omega)
      have hcell : wr.cell? ⟨g, off + k, none⟩ = some (.float .f32 (wd xs k)) := (HON.out.cell (a := ⟨g, off + k, none⟩) hg).trans (hc k hlt)
      clear hc
      go_wp2_with fail
      refine (HST.out k _ wr hlt rfl HIK.out (by omega)).mono ?_
      rintro e w2 ⟨r1, rfl, hr1, hi1, ho1⟩
      have HC2 := Lib.hid (HC.out.mid ho1 (Nat.le_refl _))
      have hc2 : w2.cell? ⟨w.heap.size, k, none⟩ = some (partial_ k r k) := HC2.out.cell hlt
      have hf2 : w2.frozen? ⟨w.heap.size, k, none⟩ = false := HC2.out.free _
      have HR1 := Lib.hid hr1; have HI1 := Lib.hid hi1; have HO1 := Lib.hid ho1
      clear hr1 hi1 ho1
      go_wp2
      go_roundw
      case rel =>
        refine ⟨k + 1, fun j => if j = k then r1 else r j, by omega, by go_num, (HC2.out.set k _).congr (fun j hj => ?_), fun j hj => ?_, HI.out (k + 1) _ _ HI1.out (Nat.le_trans (by omega) HO1.out.1.size) (by rw [Go.Deep.nblk_setCell]; exact Nat.le_refl _) (fun b hb => Go.Deep.blk_setCell_other _ _ _ _ (show b ≠ w.heap.size by omega)), (HON.out.trans HO1.out.1).setCell (a := ⟨w.heap.size, k, none⟩) (by show gr ≤ w.heap.size; omega) _⟩
        · unfold partial_
          dsimp only
          by_cases e : j = k
          · rw [if_pos e, if_pos (by omega), if_pos e]
          · rw [if_neg e, if_neg e]
            by_cases e2 : j < k
            · rw [if_pos e2, if_pos (by omega)]
            · rw [if_neg e2, if_neg (by omega)]
        · show Hid (Fv .f32 (if j = k then r1 else r j) (Y j))
          by_cases e : j = k
          · subst e; rw [if_pos rfl]; exact HR1
          · rw [if_neg e]; exact HR.out j (by omega)
      case measure => simp [intOf]; omega
    · obtain rfl : k = n := by omega
      go_wp2
      go_ret
      refine ⟨lst k r, rfl, ⟨lst_len _ _, fun y hy => ?_, fun _ => ?_⟩, fun i hi => by rw [lst_wd hi]; exact (HR.out i hi).out.2, HIK.out, HON.out⟩
      · obtain ⟨i, hi, rfl⟩ := List.mem_map.1 hy
        exact (HR.out i (List.mem_range.1 hi)).out.1
      · obtain ⟨cs, hb, hc⟩ := HC.out
        refine ⟨_, cs, rfl, Nat.le_refl _, hb, fun j hj => ?_⟩
        rw [hc j hj]; unfold partial_ fv; rw [if_pos hj, lst_wd hj]

theorem tabClos_b (v : Int) (b n : Nat) (bb : Bool) (w : World) (hc : w.cell? ⟨b, 0, none⟩ = some (.int .i64 (n : Nat))) (h : (decide (1 ≤ v) && decide (v ≤ (n : Int))) = bb) : Calls Try.prog 65 #[.int .i64 v, .pointer (some ⟨b, 0, none⟩)] w fun e w' => e = .returned (.bool bb) ∧ w = w' := by
  subst h
  cases h1 : decide ((1 : Int) ≤ v)
  · go_enter Try.func65, Try.ntmps65
    go_wp2
    go_ret
    exact ⟨rfl, rfl⟩
  · go_enter Try.func65, Try.ntmps65
    go_wp2
    go_ret
    exact ⟨rfl, rfl⟩
set_option maxHeartbeats 2000000 in
set_option maxRecDepth 100000 in
theorem allTab_any (b0 t : Nat) (ts : List Int) (b n : Nat) (r : Bool) (w : World) (h : Is w w.heap.size (some ⟨b0, 0, none⟩) t ts) (ht : t ≤ 1048576) (hc : w.cell? ⟨b, 0, none⟩ = some (.int .i64 (n : Nat))) (hr : r = true ↔ chTab ts n t) :
    Calls Try.prog 64 #[.slice (some ⟨b0, 0, none⟩) t t, .func (.func 65) #[] #[.pointer (some ⟨b, 0, none⟩)]] w fun e w' => e = .returned (.bool r) ∧ w = w' := by
  have HA := Lib.hid h; have HR := Lib.hid hr; have HC := Lib.hid hc
  clear h hr hc
  go_enter Try.func64, Try.ntmps64
  go_wp2
  go_loopw [9] (fun i wr => ∃ k : Nat, k ≤ t ∧ i = .int .i64 (k : Nat) ∧ chTab ts n k ∧ w = wr) (fun i _ => t - (intOf i).toNat)
  case atStart => exact ⟨0, Nat.zero_le _, rfl, (fun j hj => by omega), rfl⟩
  case round =>
    obtain ⟨k, hk, rfl, hz, rfl⟩ := hrel
    have HZ := Lib.hid hz
    clear hz
    by_cases hlt : k < t
    · obtain ⟨g, off, e1, hg, hc⟩ := HA.out.2 (by omega)
      injection e1 with e1; injection e1 with e1 e2 _; subst e1; subst e2
      have c0 := hc k hlt
      simp only [Nat.zero_add, iv] at c0
      clear hc
      cases ho : decide ((1 : Int) ≤ wi ts k) && decide (wi ts k ≤ (n : Int))
      · have h6 : r = false := by
          cases h6 : r
          · rfl
          · have h7 := HR.out.1 h6 k hlt
            rw [decide_eq_true h7.1, decide_eq_true h7.2] at ho; cases ho
        subst h6
        go_wp2_with fail
        refine (tabClos_b _ b n false _ HC.out ho).mono ?_; rintro e w2 ⟨rfl, rfl⟩
        go_wp2
        go_ret
        exact ⟨rfl, rfl⟩
      · have HO := Lib.hid ho
        go_wp2_with fail
        refine (tabClos_b _ b n true _ HC.out ho).mono ?_; rintro e w2 ⟨rfl, rfl⟩
        go_wp2
        go_roundw
        case rel =>
          refine ⟨k + 1, by omega, by go_num, fun j hj => ?_, trivial⟩
          by_cases e : j = k
          · subst e
            have h8 := HO.out
            rw [Bool.and_eq_true] at h8
            exact ⟨of_decide_eq_true h8.1, of_decide_eq_true h8.2⟩
          · exact HZ.out j (by omega)
        case measure => simp [intOf]; omega
    · obtain rfl : k = t := by omega
      have h5 := HR.out.2 HZ.out
      subst h5
      clear HR
      go_wp2
      go_ret
      exact ⟨rfl, rfl⟩
theorem isTab_b (b0 t : Nat) (ts : List Int) (n : Nat) (r : Bool) (w : World) (h : Is w w.heap.size (some ⟨b0, 0, none⟩) t ts) (ht : t ≤ 1048576) (hr : r = true ↔ (1 ≤ t ∧ t ≤ 64) ∧ chTab ts n t) :
    Calls Try.prog 52 #[.slice (some ⟨b0, 0, none⟩) t t, .int .i64 (n : Nat)] w fun e w' => e = .returned (.bool r) ∧ w.Since w.heap.size w' := by
  have HA := Lib.hid h; have HR := Lib.hid hr
  have hc : Hid ((w.alloc (.cells #[.int .i64 (n : Nat)] 3)).cell? ⟨w.heap.size, 0, none⟩ = some (.int .i64 (n : Nat))) := Lib.hid (by simp [go_sem])
  have HS : Hid (w.Since w.heap.size (w.alloc (.cells #[.int .i64 (n : Nat)] 3))) := Lib.hid ((World.Since.refl _ _).alloc (Nat.le_refl _) _)
  clear h hr
  by_cases h1 : 1 ≤ t
  · by_cases h2 : t ≤ 64
    · have hb1 : decide ((1 : Int) ≤ (t : Int)) = true := decide_eq_true (by omega)
      have hb2 : decide ((t : Int) ≤ 64) = true := decide_eq_true (by omega)
      have HR2 : Hid (r = true ↔ chTab ts n t) := Lib.hid (HR.out.trans ⟨fun h => h.2, fun h => ⟨⟨h1, h2⟩, h⟩⟩)
      clear HR
      go_enter Try.func52, Try.ntmps52
      go_wp2_with (first | (go_at_call 64; go_loud (refine (allTab_any b0 t ts w.heap.size n r _ (HA.out.now HS.out) ht hc.out HR2.out).mono ?_); rintro e w2 ⟨rfl, rfl⟩))
      go_ret
      exact ⟨rfl, HS.out⟩
    · have h6 : r = false := by
        cases h6 : r
        · rfl
        · exact absurd (HR.out.1 h6).1.2 h2
      subst h6
      have hb2 : decide ((t : Int) ≤ 64) = false := decide_eq_false (by omega)
      clear HR
      go_enter Try.func52, Try.ntmps52
      go_wp2
      go_ret
      exact ⟨rfl, by (repeat (first | (with_reducible refine Fl.sinDrew ?_) | (with_reducible refine World.Since.drew ?_) | (with_reducible refine Fl.sinSet ?_ ?_; rotate_left) | (with_reducible refine Fl.sinAlloc ?_ ?_; rotate_left) | with_reducible exact World.Since.refl _ _ | with_reducible assumption | (with_reducible refine Fl.sinStep (by with_reducible assumption) ?_))); all_goals (first | omega | (simp; done) | (simp; omega) | (simp [go_sem]; done) | (simp [go_sem]; omega))⟩
  · have h6 : r = false := by
      cases h6 : r
      · rfl
      · exact absurd (HR.out.1 h6).1.1 h1
    subst h6
    have hb2 : decide ((1 : Int) ≤ (t : Int)) = false := decide_eq_false (by omega)
    clear HR
    go_enter Try.func52, Try.ntmps52
    go_wp2
    go_ret
    exact ⟨rfl, by (repeat (first | (with_reducible refine Fl.sinDrew ?_) | (with_reducible refine World.Since.drew ?_) | (with_reducible refine Fl.sinSet ?_ ?_; rotate_left) | (with_reducible refine Fl.sinAlloc ?_ ?_; rotate_left) | with_reducible exact World.Since.refl _ _ | with_reducible assumption | (with_reducible refine Fl.sinStep (by with_reducible assumption) ?_))); all_goals (first | omega | (simp; done) | (simp; omega) | (simp [go_sem]; done) | (simp [go_sem]; omega))⟩
end Go.Proofs.Ytbjhioolfighdaa

/- Moving delays: of the program. -/
set_option linter.unusedVariables false
set_option linter.unusedSimpArgs false
namespace Go.Proofs.Ytbjhioolfighdaa
open Fl Go.RowKit
/-- what stands when k samples have gone through a line -/
def ChI (b0 t : Nat) (ts : List Int) (a n : Nat) (S : Nat → O) (mx g br bt bp bm B k : Nat) (W : World) : Prop :=
  ∃ f, RingAt W g n (k % n) f ∧ (∀ j, j < n → ab .f32 (f j) = S (Ln.ix n k j)) ∧ W.cell? ⟨br, 0, none⟩ = some (.pointer (some ⟨g, 0, none⟩)) ∧ W.cell? ⟨bt, 0, none⟩ = some (.slice (some ⟨b0, 0, none⟩) t t) ∧ GF W bp 2 1 (fun _ => .int .i64 ((a + k : Nat) : Int)) ∧ W.cell? ⟨bm, 0, none⟩ = some (.float .f32 mx) ∧ Is W B (some ⟨b0, 0, none⟩) t ts
set_option maxHeartbeats 4000000 in
set_option maxRecDepth 100000 in
theorem beforeN_any (g n o d : Nat) (f : Nat → Nat) (w : World) (h : RingAt w g n o f) (hn : n ≤ 64) (ho : o < n) (hd0 : 0 < d) (hd : d ≤ n) :
    Calls Try.prog 54 #[.pointer (some ⟨g, 0, none⟩), .int .i64 (d : Nat)] w fun e w' => e = .returned (.float .f32 (f ((o + n - d) % n))) ∧ ∃ m, w' = w.drewN m := by
  obtain ⟨j, hj⟩ : ∃ j, j = (o + n - d) % n := ⟨_, rfl⟩
  have hj64 : j < 64 := by have := Nat.mod_lt (o + n - d) (show 0 < n by omega); omega
  have hI : ((o : Int) + (n : Int) - (d : Int)) % (n : Int) = (j : Int) := by
    rw [hj, Int.natCast_emod, show ((o + n - d : Nat) : Int) = (o : Int) + (n : Int) - (d : Int) by omega]
  rw [← hj]
  have h1 := h.num hj64
  have h2 := h.old
  have h3 := h.len
  have b0 : (0 : Int) ≤ (o : Int) + (n : Int) - (d : Int) := by omega
  have b1 : (0 : Int) ≤ j := by omega
  have b2 : (j : Int) < 64 := by omega
  have b3 : (0 : Int) < n := by omega
  clear h hj
  go_enter Try.func54, Try.ntmps54
  go_wp2
  go_quiet (fail)
  go_wp2
  go_ret
  exact ⟨rfl, _, rfl⟩
set_option maxHeartbeats 4000000 in
set_option maxRecDepth 100000 in
theorem closChorus_any (b0 t : Nat) (ts : List Int) (a n : Nat) (S : Nat → O) (mx g br bt bp bm B k q : Nat) (w : World) (h : ChI b0 t ts a n S mx g br bt bp bm B k w) (hk : k ≤ 256) (ha : a ≤ 1000000000000000) (ht : 1 ≤ t ∧ t ≤ 64) (hn : 1 ≤ n ∧ n ≤ 64) (htab : chTab ts n t) (hmx : mx < 4294967296) (hq : q < 4294967296) (hS : S (k + n) = ab .f32 q)
    (l1 : br < w.heap.size) (l2 : bt < w.heap.size) (l4 : bm < w.heap.size) (d1 : br ≠ g) (d2 : bt ≠ g) (d4 : bm ≠ g) (d3 : bp ≠ g) (e1 : br ≠ bp) (e2 : bt ≠ bp) (e4 : bm ≠ bp) (lo B0 : Nat) (hB : B ≤ B0) (hg : B0 ≤ g ∧ g < lo) (hp : B0 ≤ bp ∧ bp < lo) :
    Calls Try.prog 53 #[.float .f32 q, .pointer (some ⟨br, 0, none⟩), .pointer (some ⟨bt, 0, none⟩), .pointer (some ⟨bp, 0, none⟩), .pointer (some ⟨bm, 0, none⟩)] w fun e w' => ∃ r, e = .returned (.float .f32 r) ∧ Hid (Fv .f32 r (ad (ab .f32 q) (mu (ab .f32 mx) (S (k + n - chD ts t a k))))) ∧ ChI b0 t ts a n S mx g br bt bp bm B (k + 1) w' ∧ Mid B0 lo w w' := by
  obtain ⟨f, hr, hf, hc1, hc2, hgp, hc4, his⟩ := h
  have hgl := hr.lt
  have hpl := hgp.lt
  obtain ⟨p, hp0⟩ : ∃ p, p = (a + k) % t := ⟨_, rfl⟩
  have hpt : p < t := by rw [hp0]; exact Nat.mod_lt _ (by omega)
  obtain ⟨g0, o0, e0, hg0, hcc⟩ := his.2 (by omega)
  injection e0 with e0; injection e0 with e0 e5 _; subst e0; subst e5
  have c5 := hcc p hpt
  simp only [Nat.zero_add, iv] at c5
  obtain ⟨d, hd, hd1, hdn⟩ : ∃ d : Nat, wi ts p = (d : Int) ∧ 1 ≤ d ∧ d ≤ n := ⟨(wi ts p).toNat, by have := htab p hpt; omega, by have := htab p hpt; omega, by have := htab p hpt; omega⟩
  rw [hd] at c5
  have hD : chD ts t a k = d := by unfold chD; rw [← hp0, hd]; rfl
  rw [hD]
  have hI : (((a + k : Nat) : Int)) % (t : Int) = (p : Int) := by rw [hp0, Int.natCast_emod]
  have hot : k % n < n := Nat.mod_lt _ (by omega)
  have hold : Hid (Fv .f32 (f ((k % n + n - d) % n)) (S (k + n - d))) := Lib.hid ⟨hr.small _ (Nat.lt_of_lt_of_le (Nat.mod_lt _ (by omega)) hn.2), by
    rw [hf _ (Nat.mod_lt _ (by omega)), show k % n + n - d = k % n + (n - d) by omega, Ln.ix_at (by omega)]
    congr 1; omega⟩
  have HB := Lib.hid (fun N => beforeN_any g n (k % n) d f (w.drewN N) (hr.drewN N) hn.2 hot hd1 hdn)
  have HQ : Hid (Fv .f32 q (ab .f32 q)) := Lib.hid ⟨hq, rfl⟩
  have HMX : Hid (Fv .f32 mx (ab .f32 mx)) := Lib.hid ⟨hmx, rfl⟩
  have c3 := hgp.cell (j := 0) (by decide)
  have f3 := hgp.free 0
  have HR := Lib.hid hr; have HF := Lib.hid hf; have HG := Lib.hid hgp; have HIS := Lib.hid his; have HSS := Lib.hid hS
  have b1 : (0 : Int) ≤ ((a + k : Nat) : Int) := by omega
  have b2 : (0 : Int) < (t : Int) := by omega
  have b4 : ((a + k : Nat) : Int) ≤ 1000000000000256 := by omega
  obtain ⟨ak, hak⟩ : ∃ ak, ak = a + k := ⟨_, rfl⟩
  rw [← hak] at c3 hI b1 b4
  have HAK := Lib.hid hak
  clear hak
  clear hr hf hgp his hS hcc hd hD hp0 htab
  go_enter Try.func53, Try.ntmps53
  go_wp2_with fail
  go_quiet (first | (go_at_call 54; refine Calls.quiet_of (HB.out _)))
  have R1 : Hid (RingAt ((w.setCell ⟨bp, 0, none⟩ (.int .i64 ((ak : Nat) + 1))).drewN nq) g n (k % n) f) := Lib.hid ((HR.out.of (Go.Deep.blk_setCell_other _ _ _ _ (by show g ≠ bp; omega))).drewN nq)
  have S1 : Hid (w.Since B0 ((w.setCell ⟨bp, 0, none⟩ (.int .i64 ((ak : Nat) + 1))).drewN nq)) := Lib.hid (since_drewN ((World.Since.refl _ _).setCell (a := ⟨bp, 0, none⟩) hp.1 _) nq)
  have K1 : Hid (∀ b, b ≠ bp → ((w.setCell ⟨bp, 0, none⟩ (.int .i64 ((ak : Nat) + 1))).drewN nq).heap[b]? = w.heap[b]?) := Lib.hid (fun b hb => Go.Deep.blk_setCell_other w _ _ _ (by show b ≠ bp; exact hb))
  have G1 : Hid (GF ((w.setCell ⟨bp, 0, none⟩ (.int .i64 ((ak : Nat) + 1))).drewN nq) bp 2 1 fun _ => .int .i64 ((a + (k + 1) : Nat) : Int)) := Lib.hid (GF.congr (w := (w.setCell ⟨bp, 0, none⟩ (.int .i64 ((ak : Nat) + 1))).drewN nq) (f := fun j => if j = 0 then .int .i64 ((ak : Nat) + 1) else .int .i64 ((a + k : Nat) : Int)) (GF.set HG.out 0 _) fun j hj => by
    obtain rfl : j = 0 := by omega
    rw [if_pos rfl, HAK.out]; rfl)
  have z1 : Hid (((w.setCell ⟨bp, 0, none⟩ (.int .i64 ((ak : Nat) + 1))).drewN nq).heap.size = w.heap.size) := Lib.hid (by show (w.setCell _ _).heap.size = _; rw [Go.Deep.nblk_setCell])
  have P1 := Lib.hid hc1; have P2 := Lib.hid hc2; have P4 := Lib.hid hc4
  clear hc2 hc4 c5 hI
  have c1' : ((w.setCell ⟨bp, 0, none⟩ (.int .i64 ((ak : Nat) + 1))).drewN nq).cell? ⟨br, 0, none⟩ = some (.pointer (some ⟨g, 0, none⟩)) := (cell_of_block (K1.out br e1) 0).trans P1.out
  go_wp2_with fail
  clear c1' c3 f3 hc1
  obtain ⟨V, hV⟩ : ∃ V, V = (w.setCell ⟨bp, 0, none⟩ (.int .i64 ((ak : Nat) + 1))).drewN nq := ⟨_, rfl⟩
  rw [← hV] at R1 S1 K1 G1 z1 ⊢
  clear hV
  go_at_call 46
  refine (take_any g n (k % n) q f V R1.out hot hn.2 hq).mono ?_
  rintro e w2 ⟨rfl, hr2, ho⟩
  have R2 := Lib.hid hr2; have O2 := Lib.hid ho
  have BB : Hid (∀ b, b < w.heap.size → b ≠ bp → b ≠ g → w2.heap[b]? = w.heap[b]?) := Lib.hid (fun b h1 h2 h3 => (ho.2 b (by rw [z1.out]; exact h1) h3).trans (K1.out b h2))
  have m5 := (cell_of_block (BB.out bm l4 e4 d4) 0).trans P4.out
  clear hr2 ho
  go_wp2_with (with_reducible_and_instances refine Lo.wpList_fo _ rfl _ _ _ _ _ rfl _ _ _ _ _ rfl rfl rfl (by assumption) (by assumption) ?_; intro rr nn hrr)
  go_ret
  refine ⟨_, rfl, hrr, ⟨_, by rw [← Ln.mod_step (by omega)]; exact R2.out.drewN _, fun j hj => ?_, (cell_of_block (BB.out br l1 e1 d1) 0).trans P1.out, (cell_of_block (BB.out bt l2 e2 d2) 0).trans P2.out, G1.out.of (O2.out.2 bp (by rw [z1.out]; exact hpl) (by omega)), m5, HIS.out.keep fun g' o hg' => cell_of_block (BB.out g' (by omega) (by omega) (by omega)) o⟩, since_drewN (S1.out.trans (O2.out.since hg.1)) _, fun b h1 h2 => BB.out b h2 (by omega) (by omega)⟩
  rw [Ln.ix_step hj]
  by_cases e : j = k % n
  · rw [if_pos e, if_pos e, HSS.out]
  · rw [if_neg e, if_neg e]; exact HF.out j hj
end Go.Proofs.Ytbjhioolfighdaa

/- RunChorus of the program. -/
set_option linter.unusedVariables false
set_option linter.unusedSimpArgs false
namespace Go.Proofs.Ytbjhioolfighdaa
open Fl Go.RowKit
set_option maxHeartbeats 8000000 in
set_option maxRecDepth 100000 in
theorem implRunChorus_ok (b0 t : Nat) (ts : List Int) (mx b2 n : Nat) (xs : List Nat) (a b4 m : Nat) (ys : List Nat) (w : World) (h0 : Is w w.heap.size (some ⟨b0, 0, none⟩) t ts) (h2 : Fs w w.heap.size (some ⟨b2, 0, none⟩) n xs) (h4 : Fs w w.heap.size (some ⟨b4, 0, none⟩) m ys)
    (ht : okLen (t : Int) = true) (hn : okLen (n : Int) = true) (hmx : mx < 4294967296) (ha : a ≤ 1000000000000000) (hm : m ≤ 256) (htab : chTab ts n t) :
    Calls Try.prog 25 #[.slice (some ⟨b0, 0, none⟩) t t, .float .f32 mx, .slice (some ⟨b2, 0, none⟩) n n, .int .i64 (a : Nat), .slice (some ⟨b4, 0, none⟩) m m] w (PEEB m (fun k => chY ts t a n xs ys mx k) n (fun i => chS n xs ys (m + i)) true w) := by
  have hfew : decide ((m : Int) ≤ 256) = true := decide_eq_true (by omega)
  have hn1 : 1 ≤ n ∧ n ≤ 64 := by unfold okLen at hn; simp at hn; omega
  have ht1 : 1 ≤ t ∧ t ≤ 64 := by unfold okLen at ht; simp at ht; omega
  have haI : (a : Int) ≤ 1000000000000000 := by omega
  have H0 := Lib.hid h0; have H2 := Lib.hid h2; have H4 := Lib.hid h4; have HT := Lib.hid htab; have HON := Lib.hid hn
  clear h0 h2 h4 htab ht hn
  go_enter Try.func25, Try.ntmps25
  go_wp2_with (first | (go_at_call 51; refine (implIsLine_b _ _ _ true _ HON.out).mono ?_; rintro e w' ⟨rfl, rfl⟩) | fail)
  generalize hW1 : World.alloc (World.alloc w _) _ = W1
  have z1 : Hid (W1.heap.size = w.heap.size + 2) := Lib.hid (by rw [← hW1]; simp)
  have S1 : Hid (w.Since w.heap.size W1) := Lib.hid (by rw [← hW1]; exact ((World.Since.refl _ _).alloc (Nat.le_refl _) _).alloc (by simp) _)
  have C1 : Hid (W1.cell? ⟨w.heap.size, 0, none⟩ = some (.slice (some ⟨b0, 0, none⟩) t t)) := Lib.hid (by rw [← hW1]; simp [go_sem])
  have M1 : Hid (W1.cell? ⟨w.heap.size + 1, 0, none⟩ = some (.float .f32 mx)) := Lib.hid (by rw [← hW1]; simp [go_sem])
  clear hW1
  have c1' := C1.out
  go_wp2_with fail
  go_at_call 52
  refine (isTab_b b0 t ts n true W1 (H0.out.now S1.out) (by omega) (by simp [HT.out]; omega)).mono ?_
  rintro e w2 ⟨rfl, hs2⟩
  have z2 : Hid (w.heap.size + 2 ≤ w2.heap.size) := Lib.hid (by have := hs2.size; have := z1.out; omega)
  have C2 : Hid (w2.cell? ⟨w.heap.size, 0, none⟩ = some (.slice (some ⟨b0, 0, none⟩) t t)) := Lib.hid ((hs2.cell (a := ⟨w.heap.size, 0, none⟩) (by show w.heap.size < W1.heap.size; have := z1.out; omega)).trans C1.out)
  have M2 : Hid (w2.cell? ⟨w.heap.size + 1, 0, none⟩ = some (.float .f32 mx)) := Lib.hid ((hs2.cell (a := ⟨w.heap.size + 1, 0, none⟩) (by show w.heap.size + 1 < W1.heap.size; have := z1.out; omega)).trans M1.out)
  have SW2 : Hid (w.Since w.heap.size w2) := Lib.hid (since_step S1.out hs2)
  clear hs2 c1'
  go_wp2_with (first | (go_at_call 41; refine (implSamples_b _ _ _ _ _ hfew).mono ?_; rintro e w' ⟨rfl, rfl⟩) | fail)
  go_at_call 42
  refine (ringOf_any (some ⟨b2, 0, none⟩) n n xs w2 (H2.out.now SW2.out) (by omega) (by omega)).mono ?_
  rintro e w3 ⟨rfl, hr3, hs3⟩
  have R3 := Lib.hid hr3; have S3 := Lib.hid hs3
  have z3 : Hid (w2.heap.size < w3.heap.size) := Lib.hid hr3.lt
  clear hr3 hs3
  go_wp2_with fail
  generalize hw4 : World.alloc (World.alloc w3 _) _ = w4
  have S4 : Hid (w3.Since w3.heap.size w4) := Lib.hid (by rw [← hw4]; exact ((World.Since.refl _ _).alloc (Nat.le_refl _) _).alloc (by simp) _)
  have C4 : Hid (w4.cell? ⟨w3.heap.size, 0, none⟩ = some (.pointer (some ⟨w2.heap.size, 0, none⟩))) := Lib.hid (by rw [← hw4]; simp [go_sem])
  have P4 : Hid (GF w4 (w3.heap.size + 1) 2 1 (fun _ => .int .i64 ((a + 0 : Nat) : Int))) := Lib.hid ⟨#[.int .i64 (a : Nat)], by rw [← hw4, show w3.heap.size + 1 = (w3.alloc (.cells #[.pointer (some ⟨w2.heap.size, 0, none⟩)] 72)).heap.size by simp]; exact Go.Deep.blk_alloc_new _ _, fun j hj => by (obtain rfl : j = 0 := (by omega)); rfl⟩
  have z4 : Hid (w4.heap.size = w3.heap.size + 2) := Lib.hid (by rw [← hw4]; simp)
  clear hw4
  have R4 : Hid (RingAt w4 w2.heap.size n 0 (fun j => wd xs j)) := Lib.hid (R3.out.since S4.out z3.out)
  have S34 : Hid (w2.Since w2.heap.size w4) := Lib.hid (since_step S3.out S4.out)
  have C5 : Hid (w4.cell? ⟨w.heap.size, 0, none⟩ = some (.slice (some ⟨b0, 0, none⟩) t t)) := Lib.hid ((S34.out.cell (a := ⟨w.heap.size, 0, none⟩) (by show w.heap.size < w2.heap.size; have := z2.out; omega)).trans C2.out)
  have M5 : Hid (w4.cell? ⟨w.heap.size + 1, 0, none⟩ = some (.float .f32 mx)) := Lib.hid ((S34.out.cell (a := ⟨w.heap.size + 1, 0, none⟩) (by show w.heap.size + 1 < w2.heap.size; have := z2.out; omega)).trans M2.out)
  have SW : Hid (w.Since w.heap.size w4) := Lib.hid (since_step SW2.out S34.out)
  have B4 : Hid (Fs w4 (w.heap.size + 2) (some ⟨b4, 0, none⟩) m ys) := Lib.hid ((H4.out.since SW.out).more (by omega))
  have y1 := z2.out; have y2 := z3.out; have y3 := z4.out
  refine (results_mid (some ⟨b4, 0, none⟩) m m ys 53 #[.pointer (some ⟨w3.heap.size, 0, none⟩), .pointer (some ⟨w.heap.size, 0, none⟩), .pointer (some ⟨w3.heap.size + 1, 0, none⟩), .pointer (some ⟨w.heap.size + 1, 0, none⟩)] (w.heap.size + 2) (ChI b0 t ts a n (chS n xs ys) mx w2.heap.size w3.heap.size w.heap.size (w3.heap.size + 1) (w.heap.size + 1) w.heap.size) (fun k => chY ts t a n xs ys mx k) w4 B4.out (by omega) hm (fun _ _ => rfl) ?hI ?hst ?h0).mono ?_
  case hI =>
    rintro k W W' ⟨f, ha, hb, hc, hd, he, hf, hi⟩ hs1 hs2 hbl
    exact ⟨f, ha.of (hbl _ (by omega)), hb, (cell_of_block (hbl _ (by omega)) 0).trans hc, (cell_of_block (hbl _ (by omega)) 0).trans hd, he.of (hbl _ (by omega)), (cell_of_block (hbl _ (by omega)) 0).trans hf, hi.keep fun g' o hg' => cell_of_block (hbl g' (by omega)) o⟩
  case hst =>
    rintro k q W hk rfl hi hs
    exact closChorus_any b0 t ts a n (chS n xs ys) mx w2.heap.size w3.heap.size w.heap.size (w3.heap.size + 1) (w.heap.size + 1) w.heap.size k _ W hi (by omega) ha ht1 hn1 HT.out hmx (B4.out.2.1.at_ k) (chS_new n xs ys k) (by omega) (by omega) (by omega) (by omega) (by omega) (by omega) (by omega) (by omega) (by omega) (by omega) w4.heap.size (w.heap.size + 2) (by omega) ⟨by omega, by omega⟩ ⟨by omega, by omega⟩
  case h0 => exact ⟨_, by rw [Nat.zero_mod]; exact R4.out, fun j hj => by rw [Ln.ix_zero hj]; exact (chS_old hj).symm, C4.out, C5.out, P4.out, M5.out, H0.out.since SW.out⟩
  rintro e w5 ⟨os, rfl, hgs, har, ⟨f5, hr5, hf5, hc5, _⟩, ho5⟩
  have G5 := Lib.hid hgs; have A5 := Lib.hid har; have R5 := Lib.hid hr5; have F5 := Lib.hid hf5; have O5 := Lib.hid ho5
  clear hgs har hr5 hf5 ho5
  have z5 : Hid (w4.heap.size ≤ w5.heap.size) := Lib.hid O5.out.size
  clear y1 y2 y3
  go_wp2_with (go_at_call 47; refine (line_any _ n _ f5 w5 R5.out (Nat.mod_lt _ (by omega)) hn1.2).mono ?_; rintro e w6 ⟨ls, rfl, hg6, hl6, hs6⟩; have G6 := Lib.hid hg6; have L6 := Lib.hid hl6; have S6 := Lib.hid hs6; clear hg6 hl6 hs6)
  go_ret3
  have y1 := z2.out; have y2 := z3.out; have y3 := z4.out; have y4 := z5.out
  have SZ : w.Since w.heap.size w6 := since_step (SW.out.trans (since_mono O5.out (by omega))) S6.out
  refine ⟨⟨some ⟨w4.heap.size, 0, none⟩, m, os⟩, ⟨some ⟨w5.heap.size, 0, none⟩, n, ls⟩, m, n, rfl, rfl, rfl, ((G5.out.since S6.out).less (by omega)).toE, (G6.out.less (by omega)).toE, A5.out, fun i hi => ?_, ?_, SZ⟩
  · have hi' : i < n := hi
    show ab .f32 (wd ls i) = _
    rw [L6.out i hi', F5.out _ (Nat.mod_lt _ (by omega)), Ln.ix_at hi']
  · rintro g ⟨hp, o1, e1⟩ ⟨_, o2, e2⟩
    have hp' : 0 < m := by simpa using hp
    obtain ⟨b, e3, h3, h4⟩ := G5.out.block hp'
    injection e3 with e3; injection e3 with e3 _ _
    injection e1 with e1; injection e1 with e1 _ _
    injection e2 with e2; injection e2 with e2 _ _
    omega
/-- what a moving delay asks of its arguments -/
def chOk (ts : List Int) (t n : Nat) (a : Int) (m : Nat) : Prop := okLen (t : Int) = true ∧ okLen (n : Int) = true ∧ (0 ≤ a ∧ a ≤ 1000000000000000) ∧ m ≤ 256 ∧ chTab ts n t
set_option maxHeartbeats 4000000 in
set_option maxRecDepth 100000 in
theorem specRunChorus_no (b0 t : Nat) (ts : List Int) (mx b2 n : Nat) (a : Int) (b4 m : Nat) (w : World) (h0 : Is w w.heap.size (some ⟨b0, 0, none⟩) t ts) (hb : t ≤ 1048576) (hbn : n ≤ 1048576) (h : ¬ chOk ts t n a m) (f0 f1 : Nat → O) :
    Calls Try.prog 23 #[.slice (some ⟨b0, 0, none⟩) t t, .float .f32 mx, .slice (some ⟨b2, 0, none⟩) n n, .int .i64 a, .slice (some ⟨b4, 0, none⟩) m m] w (PEEB 0 f0 0 f1 false w) := by
  have H0 := Lib.hid h0
  clear h0
  cases q1 : okLen (t : Int)
  · have HOT := Lib.hid q1
    clear h q1
    go_enter Try.func23, Try.ntmps23
    go_wp2_with (first | (go_at_call 28; refine (specLen_b _ false _ HOT.out).mono ?_; rintro e w' ⟨rfl, rfl⟩))
    go_ret3
    exact PEEB.none_ (World.Since.refl _ _) _ _
  cases q2 : okLen (n : Int)
  · have HOT := Lib.hid q1; have HON := Lib.hid q2
    clear h q1 q2
    go_enter Try.func23, Try.ntmps23
    go_wp2_with (first | (go_at_call 28; refine (specLen_b _ true _ HOT.out).mono ?_; rintro e w' ⟨rfl, rfl⟩) | (go_at_call 28; refine (specLen_b _ false _ HON.out).mono ?_; rintro e w' ⟨rfl, rfl⟩))
    go_ret3
    exact PEEB.none_ (World.Since.refl _ _) _ _
  have HOT := Lib.hid q1; have HON := Lib.hid q2
  cases q3 : decide ((0 : Int) ≤ a) && decide (a ≤ 1000000000000000)
  · clear h q1 q2
    go_enter Try.func23, Try.ntmps23
    go_wp2_with (first | (go_at_call 28; refine (specLen_b _ true _ (by first | exact HOT.out | exact HON.out)).mono ?_; rintro e w' ⟨rfl, rfl⟩) | (go_at_call 49; refine (specIn_bt _ _ _ false _ q3).mono ?_; rintro e w' ⟨rfl, rfl⟩))
    go_ret3
    exact PEEB.none_ (World.Since.refl _ _) _ _
  have HQ3 := Lib.hid q3
  cases q4 : decide ((m : Int) ≤ 256)
  · clear h q1 q2 q3
    go_enter Try.func23, Try.ntmps23
    go_wp2_with (first | (go_at_call 28; refine (specLen_b _ true _ (by first | exact HOT.out | exact HON.out)).mono ?_; rintro e w' ⟨rfl, rfl⟩) | (go_at_call 49; refine (specIn_bt _ _ _ true _ HQ3.out).mono ?_; rintro e w' ⟨rfl, rfl⟩) | (go_at_call 29; refine (specFew_any _ _ _ _ _ q4).mono ?_; rintro e w' ⟨rfl, rfl⟩))
    go_ret3
    exact PEEB.none_ (World.Since.refl _ _) _ _
  have HNT : Hid (¬ chTab ts n t) := Lib.hid (fun h5 => h ⟨q1, q2, by rw [Bool.and_eq_true] at q3; exact ⟨of_decide_eq_true q3.1, of_decide_eq_true q3.2⟩, by have := of_decide_eq_true q4; omega, h5⟩)
  clear h q1 q2 q3
  go_enter Try.func23, Try.ntmps23
  go_wp2_with (first | (go_at_call 28; refine (specLen_b _ true _ (by first | exact HOT.out | exact HON.out)).mono ?_; rintro e w' ⟨rfl, rfl⟩) | (go_at_call 49; refine (specIn_bt _ _ _ true _ HQ3.out).mono ?_; rintro e w' ⟨rfl, rfl⟩) | (go_at_call 29; refine (specFew_any _ _ _ _ _ q4).mono ?_; rintro e w' ⟨rfl, rfl⟩))
  go_loopw [41] (fun i wr => ∃ k : Nat, k ≤ t ∧ i = .int .i64 (k : Nat) ∧ chTab ts n k ∧ w = wr) (fun i _ => t - (intOf i).toNat)
  case atStart => exact ⟨0, Nat.zero_le _, rfl, (fun j hj => by omega), rfl⟩
  case round =>
    obtain ⟨j, hj, rfl, hz, rfl⟩ := hrel
    have HZ := Lib.hid hz
    clear hz
    by_cases hlt : j < t
    · obtain ⟨g, off, e1, hg, hc⟩ := H0.out.2 (by omega)
      injection e1 with e1; injection e1 with e1 e2 _; subst e1; subst e2
      have c0 := hc j hlt
      simp only [Nat.zero_add, iv] at c0
      clear hc
      cases ho : decide ((1 : Int) ≤ wi ts j) && decide (wi ts j ≤ (n : Int))
      · go_wp2_with (first | (go_at_call 49; refine (specIn_bt _ _ _ false _ ho).mono ?_; rintro e w' ⟨rfl, rfl⟩))
        go_ret3
        exact PEEB.none_ (World.Since.refl _ _) _ _
      · have HO := Lib.hid ho
        go_wp2_with (first | (go_at_call 49; refine (specIn_bt _ _ _ true _ ho).mono ?_; rintro e w' ⟨rfl, rfl⟩))
        go_roundw
        case rel =>
          refine ⟨j + 1, by omega, by go_num, fun i hi => ?_, trivial⟩
          by_cases e : i = j
          · subst e
            have h8 := HO.out
            rw [Bool.and_eq_true] at h8
            exact ⟨of_decide_eq_true h8.1, of_decide_eq_true h8.2⟩
          · exact HZ.out i (by omega)
        case measure => simp [intOf]; omega
    · obtain rfl : j = t := by omega
      exact absurd HZ.out HNT.out
set_option maxHeartbeats 4000000 in
set_option maxRecDepth 100000 in
theorem implRunChorus_no (b0 t : Nat) (ts : List Int) (mx b2 n : Nat) (a : Int) (b4 m : Nat) (w : World) (h0 : Is w w.heap.size (some ⟨b0, 0, none⟩) t ts) (hb : t ≤ 1048576) (hbn : n ≤ 1048576) (h : ¬ chOk ts t n a m) (f0 f1 : Nat → O) :
    Calls Try.prog 25 #[.slice (some ⟨b0, 0, none⟩) t t, .float .f32 mx, .slice (some ⟨b2, 0, none⟩) n n, .int .i64 a, .slice (some ⟨b4, 0, none⟩) m m] w (PEEB 0 f0 0 f1 false w) := by
  have H0 := Lib.hid h0
  have HV : Hid (∀ r, (r = true ↔ (1 ≤ t ∧ t ≤ 64) ∧ chTab ts n t) → ∀ W1 : World, w.Since w.heap.size W1 → Calls Try.prog 52 #[.slice (some ⟨b0, 0, none⟩) t t, .int .i64 (n : Nat)] W1 fun e w' => e = .returned (.bool r) ∧ W1.Since W1.heap.size w') := Lib.hid (fun r hr W1 s => isTab_b b0 t ts n r W1 (H0.out.now s) hb hr)
  clear h0
  cases q2 : okLen (n : Int)
  · have HON := Lib.hid q2
    clear h q2
    go_enter Try.func25, Try.ntmps25
    go_wp2_with (first | (go_at_call 51; refine (implIsLine_b _ _ _ false _ HON.out).mono ?_; rintro e w' ⟨rfl, rfl⟩))
    go_ret3
    exact PEEB.none_ (by (repeat (first | (with_reducible refine Fl.sinDrew ?_) | (with_reducible refine World.Since.drew ?_) | (with_reducible refine Fl.sinSet ?_ ?_; rotate_left) | (with_reducible refine Fl.sinAlloc ?_ ?_; rotate_left) | with_reducible exact World.Since.refl _ _ | with_reducible assumption | (with_reducible refine Fl.sinStep (by with_reducible assumption) ?_))); all_goals (first | omega | (simp; done) | (simp; omega) | (simp [go_sem]; done) | (simp [go_sem]; omega))) _ _
  have HON := Lib.hid q2
  by_cases q1 : (1 ≤ t ∧ t ≤ 64) ∧ chTab ts n t
  · have HT := Lib.hid q1
    by_cases q3 : a < 0
    · clear h q1 q2
      go_enter Try.func25, Try.ntmps25
      go_wp2_with (first | (go_at_call 51; refine (implIsLine_b _ _ _ true _ HON.out).mono ?_; rintro e w' ⟨rfl, rfl⟩) | (go_at_call 52; refine (HV.out true (by simp [HT.out]) _ (by (repeat (first | (with_reducible refine Fl.sinDrew ?_) | (with_reducible refine World.Since.drew ?_) | (with_reducible refine Fl.sinSet ?_ ?_; rotate_left) | (with_reducible refine Fl.sinAlloc ?_ ?_; rotate_left) | with_reducible exact World.Since.refl _ _ | with_reducible assumption | (with_reducible refine Fl.sinStep (by with_reducible assumption) ?_))); all_goals (first | omega | (simp; done) | (simp; omega) | (simp [go_sem]; done) | (simp [go_sem]; omega)))).mono ?_; rintro e w2 ⟨rfl, hs2⟩; have S2 := Lib.hid hs2; clear hs2))
      go_ret3
      exact PEEB.none_ (since_step (by (repeat (first | (with_reducible refine Fl.sinDrew ?_) | (with_reducible refine World.Since.drew ?_) | (with_reducible refine Fl.sinSet ?_ ?_; rotate_left) | (with_reducible refine Fl.sinAlloc ?_ ?_; rotate_left) | with_reducible exact World.Since.refl _ _ | with_reducible assumption | (with_reducible refine Fl.sinStep (by with_reducible assumption) ?_))); all_goals (first | omega | (simp; done) | (simp; omega) | (simp [go_sem]; done) | (simp [go_sem]; omega))) S2.out) _ _
    by_cases q4 : 1000000000000000 < a
    · clear h q1 q2
      go_enter Try.func25, Try.ntmps25
      go_wp2_with (first | (go_at_call 51; refine (implIsLine_b _ _ _ true _ HON.out).mono ?_; rintro e w' ⟨rfl, rfl⟩) | (go_at_call 52; refine (HV.out true (by simp [HT.out]) _ (by (repeat (first | (with_reducible refine Fl.sinDrew ?_) | (with_reducible refine World.Since.drew ?_) | (with_reducible refine Fl.sinSet ?_ ?_; rotate_left) | (with_reducible refine Fl.sinAlloc ?_ ?_; rotate_left) | with_reducible exact World.Since.refl _ _ | with_reducible assumption | (with_reducible refine Fl.sinStep (by with_reducible assumption) ?_))); all_goals (first | omega | (simp; done) | (simp; omega) | (simp [go_sem]; done) | (simp [go_sem]; omega)))).mono ?_; rintro e w2 ⟨rfl, hs2⟩; have S2 := Lib.hid hs2; clear hs2))
      go_ret3
      exact PEEB.none_ (since_step (by (repeat (first | (with_reducible refine Fl.sinDrew ?_) | (with_reducible refine World.Since.drew ?_) | (with_reducible refine Fl.sinSet ?_ ?_; rotate_left) | (with_reducible refine Fl.sinAlloc ?_ ?_; rotate_left) | with_reducible exact World.Since.refl _ _ | with_reducible assumption | (with_reducible refine Fl.sinStep (by with_reducible assumption) ?_))); all_goals (first | omega | (simp; done) | (simp; omega) | (simp [go_sem]; done) | (simp [go_sem]; omega))) S2.out) _ _
    have q5 : decide ((m : Int) ≤ 256) = false := decide_eq_false (by
      have h6 : ¬ m ≤ 256 := fun h6 => h ⟨by unfold okLen; simp; omega, q2, ⟨by omega, by omega⟩, h6, q1.2⟩
      omega)
    clear h q1 q2
    go_enter Try.func25, Try.ntmps25
    go_wp2_with (first | (go_at_call 51; refine (implIsLine_b _ _ _ true _ HON.out).mono ?_; rintro e w' ⟨rfl, rfl⟩) | (go_at_call 52; refine (HV.out true (by simp [HT.out]) _ (by (repeat (first | (with_reducible refine Fl.sinDrew ?_) | (with_reducible refine World.Since.drew ?_) | (with_reducible refine Fl.sinSet ?_ ?_; rotate_left) | (with_reducible refine Fl.sinAlloc ?_ ?_; rotate_left) | with_reducible exact World.Since.refl _ _ | with_reducible assumption | (with_reducible refine Fl.sinStep (by with_reducible assumption) ?_))); all_goals (first | omega | (simp; done) | (simp; omega) | (simp [go_sem]; done) | (simp [go_sem]; omega)))).mono ?_; rintro e w2 ⟨rfl, hs2⟩; have S2 := Lib.hid hs2; clear hs2) | (go_at_call 41; refine (implSamples_b _ _ _ _ _ q5).mono ?_; rintro e w' ⟨rfl, rfl⟩))
    go_ret3
    exact PEEB.none_ (since_step (by (repeat (first | (with_reducible refine Fl.sinDrew ?_) | (with_reducible refine World.Since.drew ?_) | (with_reducible refine Fl.sinSet ?_ ?_; rotate_left) | (with_reducible refine Fl.sinAlloc ?_ ?_; rotate_left) | with_reducible exact World.Since.refl _ _ | with_reducible assumption | (with_reducible refine Fl.sinStep (by with_reducible assumption) ?_))); all_goals (first | omega | (simp; done) | (simp; omega) | (simp [go_sem]; done) | (simp [go_sem]; omega))) S2.out) _ _
  · have HT := Lib.hid q1
    clear h q1 q2
    go_enter Try.func25, Try.ntmps25
    go_wp2_with (first | (go_at_call 51; refine (implIsLine_b _ _ _ true _ HON.out).mono ?_; rintro e w' ⟨rfl, rfl⟩) | (go_at_call 52; refine (HV.out false (by simp [HT.out]) _ (by (repeat (first | (with_reducible refine Fl.sinDrew ?_) | (with_reducible refine World.Since.drew ?_) | (with_reducible refine Fl.sinSet ?_ ?_; rotate_left) | (with_reducible refine Fl.sinAlloc ?_ ?_; rotate_left) | with_reducible exact World.Since.refl _ _ | with_reducible assumption | (with_reducible refine Fl.sinStep (by with_reducible assumption) ?_))); all_goals (first | omega | (simp; done) | (simp; omega) | (simp [go_sem]; done) | (simp [go_sem]; omega)))).mono ?_; rintro e w2 ⟨rfl, hs2⟩; have S2 := Lib.hid hs2; clear hs2))
    go_ret3
    exact PEEB.none_ (since_step (by (repeat (first | (with_reducible refine Fl.sinDrew ?_) | (with_reducible refine World.Since.drew ?_) | (with_reducible refine Fl.sinSet ?_ ?_; rotate_left) | (with_reducible refine Fl.sinAlloc ?_ ?_; rotate_left) | with_reducible exact World.Since.refl _ _ | with_reducible assumption | (with_reducible refine Fl.sinStep (by with_reducible assumption) ?_))); all_goals (first | omega | (simp; done) | (simp; omega) | (simp [go_sem]; done) | (simp [go_sem]; omega))) S2.out) _ _
end Go.Proofs.Ytbjhioolfighdaa

/- Walks of laws whose arguments or results are lists. -/
set_option linter.unusedVariables false
set_option linter.unusedSimpArgs false
namespace Go.Proofs.Ytbjhioolfighdaa
open Fl Go.RowKit
set_option maxHeartbeats 16000000 in
set_option maxRecDepth 100000 in
theorem lawRunChorus_gen (A0 : Option Addr) (n0 c0 : Nat) (x0 : List Int) (a1 : Nat) (A2 : Option Addr) (n2 c2 : Nat) (x2 : List Nat) (a3 : Int) (A4 : Option Addr) (n4 c4 : Nat) (x4 : List Nat) (rn0 : Nat) (rf0 : Nat → Option Nat) (rn1 : Nat) (rf1 : Nat → Option Nat) (rb2 : Bool) (w : World)
    (h0 : Is w w.heap.size A0 n0 x0) (hn0 : n0 ≤ 1048576) (h2 : Fs w w.heap.size A2 n2 x2) (hn2 : n2 ≤ 1048576) (h4 : Fs w w.heap.size A4 n4 x4) (hn4 : n4 ≤ 1048576) (hr0 : rn0 ≤ 1048576) (hr1 : rn1 ≤ 1048576)
    (hsp : ∀ (v : World) (b0 : Nat) (b2 : Nat) (b4 : Nat), Is v v.heap.size (some ⟨b0, 0, none⟩) n0 x0 → Fs v v.heap.size (some ⟨b2, 0, none⟩) n2 x2 → Fs v v.heap.size (some ⟨b4, 0, none⟩) n4 x4 → Calls Try.prog 23 #[.slice (some ⟨b0, 0, none⟩) n0 n0, .float .f32 a1, .slice (some ⟨b2, 0, none⟩) n2 n2, .int .i64 a3, .slice (some ⟨b4, 0, none⟩) n4 n4] v (PEEB rn0 rf0 rn1 rf1 rb2 v))
    (him : ∀ (v : World) (b0 : Nat) (b2 : Nat) (b4 : Nat), Is v v.heap.size (some ⟨b0, 0, none⟩) n0 x0 → Fs v v.heap.size (some ⟨b2, 0, none⟩) n2 x2 → Fs v v.heap.size (some ⟨b4, 0, none⟩) n4 x4 → Calls Try.prog 25 #[.slice (some ⟨b0, 0, none⟩) n0 n0, .float .f32 a1, .slice (some ⟨b2, 0, none⟩) n2 n2, .int .i64 a3, .slice (some ⟨b4, 0, none⟩) n4 n4] v (PEEB rn0 rf0 rn1 rf1 rb2 v)) :
    Calls Try.prog 6 #[.slice A0 n0 c0, .float .f32 a1, .slice A2 n2 c2, .int .i64 a3, .slice A4 n4 c4] w fun e w' => e = .returned (.bool true) ∧ w.Since w.heap.size w' := by
  have S0 : Hid (w.Since w.heap.size w) := Lib.hid (World.Since.refl _ _)
  have F0 : Hid (Is w w.heap.size A0 n0 x0) := Lib.hid (h0.now S0.out); clear h0
  have hd0 : decide ((1048576 : Int) < n0) = false := decide_eq_false (by omega)
  have F2 : Hid (Fs w w.heap.size A2 n2 x2) := Lib.hid (h2.now S0.out); clear h2
  have hd2 : decide ((1048576 : Int) < n2) = false := decide_eq_false (by omega)
  have F4 : Hid (Fs w w.heap.size A4 n4 x4) := Lib.hid (h4.now S0.out); clear h4
  have hd4 : decide ((1048576 : Int) < n4) = false := decide_eq_false (by omega)
  have HSP := Lib.hid hsp; have HIM := Lib.hid him; clear hsp him
  go_enter Try.func6, Try.ntmps6
  go_wp2_with fail
  have S : Hid (w.Since w.heap.size w) := Lib.hid (World.Since.refl _ _)
  have LV : Hid (He w.heap.size w []) := Lib.hid trivial
  go_at_call 24
  refine (toIE_any A0 n0 c0 x0 w _ F0.out S.out hn0).mono ?_
  rintro e v1 ⟨rfl, hg, hs⟩
  have LV' := Lib.hid (LV.out.new hs hg S.out.size); clear LV; have LV := LV'; clear LV'
  have S' := Lib.hid (since_step S.out hs); clear S; have S := S'; clear S'
  clear hs hg
  go_wp2_with fail
  go_at_call 9
  refine (toFE_any A2 n2 c2 x2 w _ F2.out S.out hn2).mono ?_
  rintro e v2 ⟨rfl, hg, hs⟩
  have LV' := Lib.hid (LV.out.new hs hg S.out.size); clear LV; have LV := LV'; clear LV'
  have S' := Lib.hid (since_step S.out hs); clear S; have S := S'; clear S'
  clear hs hg
  go_wp2_with fail
  go_at_call 9
  refine (toFE_any A4 n4 c4 x4 w _ F4.out S.out hn4).mono ?_
  rintro e v3 ⟨rfl, hg, hs⟩
  have LV' := Lib.hid (LV.out.new hs hg S.out.size); clear LV; have LV := LV'; clear LV'
  have S' := Lib.hid (since_step S.out hs); clear S; have S := S'; clear S'
  clear hs hg
  go_wp2_with fail
  go_at_call 23
  refine (HSP.out _ _ _ _ ((LV.out.2.2.1.1).readI) ((LV.out.2.1.1).readF) ((LV.out.1.1).readF)).mono ?_
  rintro e v4 ⟨w0, w1, kw0, kw1, rfl, hnw0, hnw1, hgw0, hgw1, hfw0, hfw1, hdj, hs⟩
  have LV' := Lib.hid ((LV.out.2.2.2).new2 hs hgw0 hgw1 hdj S.out.size); clear LV; have LV := LV'; clear LV'
  have S' := Lib.hid (since_step S.out hs); clear S; have S := S'; clear S'
  have Kw0 := Lib.hid hfw0; have Nw0 := Lib.hid hnw0; clear hfw0 hgw0 hnw0
  have Kw1 := Lib.hid hfw1; have Nw1 := Lib.hid hnw1; clear hfw1 hgw1 hnw1
  clear hs hdj
  go_wp2_with fail
  go_at_call 24
  refine (toIE_any A0 n0 c0 x0 w _ F0.out S.out hn0).mono ?_
  rintro e v5 ⟨rfl, hg, hs⟩
  have LV' := Lib.hid (LV.out.new hs hg S.out.size); clear LV; have LV := LV'; clear LV'
  have S' := Lib.hid (since_step S.out hs); clear S; have S := S'; clear S'
  clear hs hg
  go_wp2_with fail
  go_at_call 9
  refine (toFE_any A2 n2 c2 x2 w _ F2.out S.out hn2).mono ?_
  rintro e v6 ⟨rfl, hg, hs⟩
  have LV' := Lib.hid (LV.out.new hs hg S.out.size); clear LV; have LV := LV'; clear LV'
  have S' := Lib.hid (since_step S.out hs); clear S; have S := S'; clear S'
  clear hs hg
  go_wp2_with fail
  go_at_call 9
  refine (toFE_any A4 n4 c4 x4 w _ F4.out S.out hn4).mono ?_
  rintro e v7 ⟨rfl, hg, hs⟩
  have LV' := Lib.hid (LV.out.new hs hg S.out.size); clear LV; have LV := LV'; clear LV'
  have S' := Lib.hid (since_step S.out hs); clear S; have S := S'; clear S'
  clear hs hg
  go_wp2_with fail
  go_at_call 25
  refine (HIM.out _ _ _ _ ((LV.out.2.2.1.1).readI) ((LV.out.2.1.1).readF) ((LV.out.1.1).readF)).mono ?_
  rintro e v8 ⟨g0, g1, kg0, kg1, rfl, hng0, hng1, hgg0, hgg1, hfg0, hfg1, hdj, hs⟩
  have LV' := Lib.hid ((LV.out).new2 hs hgg0 hgg1 hdj S.out.size); clear LV; have LV := LV'; clear LV'
  have S' := Lib.hid (since_step S.out hs); clear S; have S := S'; clear S'
  have Kg0 := Lib.hid hfg0; have Ng0 := Lib.hid hng0; clear hfg0 hgg0 hng0
  have Kg1 := Lib.hid hfg1; have Ng1 := Lib.hid hng1; clear hfg1 hgg1 hng1
  clear hs hdj
  go_wp2_with fail
  go_at_call 11
  refine (eqL_any g0 w0 _ _ _ _ (LV.out.1.1).readF (LV.out.2.2.2.2.2.1.1).readF (by rw [Ng0.out]; exact hr0) (Nw0.out.trans Ng0.out.symm) Kg0.out Kw0.out).mono ?_
  rintro e v9 ⟨rfl, hs⟩
  have S' := Lib.hid (since_step S.out hs); clear S; have S := S'; clear S'
  have LV' := Lib.hid (LV.out.since hs); clear LV; have LV := LV'; clear LV'
  clear hs
  go_wp2_with fail
  go_at_call 11
  refine (eqL_any g1 w1 _ _ _ _ (LV.out.2.1.1).readF (LV.out.2.2.2.2.2.2.1.1).readF (by rw [Ng1.out]; exact hr1) (Nw1.out.trans Ng1.out.symm) Kg1.out Kw1.out).mono ?_
  rintro e v10 ⟨rfl, hs⟩
  have S' := Lib.hid (since_step S.out hs); clear S; have S := S'; clear S'
  have LV' := Lib.hid (LV.out.since hs); clear LV; have LV := LV'; clear LV'
  clear hs
  go_wp2_with fail
  go_at_call 24
  refine (toIE_any A0 n0 c0 x0 w _ F0.out S.out hn0).mono ?_
  rintro e v11 ⟨rfl, hg, hs⟩
  have LV' := Lib.hid (LV.out.new hs hg S.out.size); clear LV; have LV := LV'; clear LV'
  have S' := Lib.hid (since_step S.out hs); clear S; have S := S'; clear S'
  clear hs hg
  go_wp2_with fail
  go_at_call 26
  refine (eqJ_any ⟨some ⟨v4.heap.size, 0, none⟩, n0, x0⟩ ⟨some ⟨v10.heap.size, 0, none⟩, n0, x0⟩ _ _ _ _ (LV.out.2.2.2.2.2.1.1).readI (LV.out.1.1).readI (by omega) rfl rfl rfl).mono ?_
  rintro e v12 ⟨rfl, hs⟩
  have S' := Lib.hid (since_step S.out hs); clear S; have S := S'; clear S'
  have LV' := Lib.hid (LV.out.since hs); clear LV; have LV := LV'; clear LV'
  clear hs
  have LV' := Lib.hid LV.out.2; clear LV; have LV := LV'; clear LV'
  go_wp2_with fail
  go_at_call 9
  refine (toFE_any A2 n2 c2 x2 w _ F2.out S.out hn2).mono ?_
  rintro e v13 ⟨rfl, hg, hs⟩
  have LV' := Lib.hid (LV.out.new hs hg S.out.size); clear LV; have LV := LV'; clear LV'
  have S' := Lib.hid (since_step S.out hs); clear S; have S := S'; clear S'
  clear hs hg
  go_wp2_with fail
  go_at_call 11
  refine (eqL_any ⟨some ⟨v5.heap.size, 0, none⟩, n2, x2⟩ ⟨some ⟨v12.heap.size, 0, none⟩, n2, x2⟩ _ _ _ _ (LV.out.2.2.2.2.1.1).readF (LV.out.1.1).readF (by omega) rfl (fun _ _ => rfl) (fun _ _ => rfl)).mono ?_
  rintro e v14 ⟨rfl, hs⟩
  have S' := Lib.hid (since_step S.out hs); clear S; have S := S'; clear S'
  have LV' := Lib.hid (LV.out.since hs); clear LV; have LV := LV'; clear LV'
  clear hs
  have LV' := Lib.hid LV.out.2; clear LV; have LV := LV'; clear LV'
  go_wp2_with fail
  go_at_call 9
  refine (toFE_any A4 n4 c4 x4 w _ F4.out S.out hn4).mono ?_
  rintro e v15 ⟨rfl, hg, hs⟩
  have LV' := Lib.hid (LV.out.new hs hg S.out.size); clear LV; have LV := LV'; clear LV'
  have S' := Lib.hid (since_step S.out hs); clear S; have S := S'; clear S'
  clear hs hg
  go_wp2_with fail
  go_at_call 11
  refine (eqL_any ⟨some ⟨v6.heap.size, 0, none⟩, n4, x4⟩ ⟨some ⟨v14.heap.size, 0, none⟩, n4, x4⟩ _ _ _ _ (LV.out.2.2.2.1.1).readF (LV.out.1.1).readF (by omega) rfl (fun _ _ => rfl) (fun _ _ => rfl)).mono ?_
  rintro e v16 ⟨rfl, hs⟩
  have S' := Lib.hid (since_step S.out hs); clear S; have S := S'; clear S'
  have LV' := Lib.hid (LV.out.since hs); clear LV; have LV := LV'; clear LV'
  clear hs
  have LV' := Lib.hid LV.out.2; clear LV; have LV := LV'; clear LV'
  go_wp2_with fail
  go_at_call 27
  refine (markIE_any (some ⟨v4.heap.size, 0, none⟩) n0 x0 _ (1) _ _ _ _ (He.front [_, _, _, _] LV.out) (hn0) (by have := Ng0.out; have := Ng1.out; omega) (by first | rfl | omega | (push_cast; omega))).mono ?_
  rintro e v17 ⟨rfl, hlv, hs⟩
  have LV' := Lib.hid hlv; clear LV hlv; have LV := LV'; clear LV'
  have S' := Lib.hid (since_mark S.out hs); clear S hs; have S := S'; clear S'
  go_wp2_with fail
  go_at_call 12
  refine (markFE_any (some ⟨v5.heap.size, 0, none⟩) n2 x2 _ (1 + n0) _ _ _ _ (He.front [_, _, _, _] LV.out) (hn2) (by have := Ng0.out; have := Ng1.out; omega) (by first | rfl | omega | (push_cast; omega))).mono ?_
  rintro e v18 ⟨rfl, hlv, hs⟩
  have LV' := Lib.hid hlv; clear LV hlv; have LV := LV'; clear LV'
  have S' := Lib.hid (since_mark S.out hs); clear S hs; have S := S'; clear S'
  go_wp2_with fail
  go_at_call 12
  refine (markFE_any (some ⟨v6.heap.size, 0, none⟩) n4 x4 _ (1 + n0 + n2) _ _ _ _ (He.front [_, _, _, _] LV.out) (hn4) (by have := Ng0.out; have := Ng1.out; omega) (by first | rfl | omega | (push_cast; omega))).mono ?_
  rintro e v19 ⟨rfl, hlv, hs⟩
  have LV' := Lib.hid hlv; clear LV hlv; have LV := LV'; clear LV'
  have S' := Lib.hid (since_mark S.out hs); clear S hs; have S := S'; clear S'
  go_wp2_with fail
  go_at_call 11
  refine (eqL_any g0 w0 _ _ _ _ (LV.out.2.2.2.1.1).readF (LV.out.2.2.2.2.2.1.1).readF (by rw [Ng0.out]; exact hr0) (Nw0.out.trans Ng0.out.symm) Kg0.out Kw0.out).mono ?_
  rintro e v20 ⟨rfl, hs⟩
  have S' := Lib.hid (since_step S.out hs); clear S; have S := S'; clear S'
  have LV' := Lib.hid (LV.out.since hs); clear LV; have LV := LV'; clear LV'
  clear hs
  go_wp2_with fail
  go_at_call 11
  refine (eqL_any g1 w1 _ _ _ _ (LV.out.2.2.2.2.1.1).readF (LV.out.2.2.2.2.2.2.1.1).readF (by rw [Ng1.out]; exact hr1) (Nw1.out.trans Ng1.out.symm) Kg1.out Kw1.out).mono ?_
  rintro e v21 ⟨rfl, hs⟩
  have S' := Lib.hid (since_step S.out hs); clear S; have S := S'; clear S'
  have LV' := Lib.hid (LV.out.since hs); clear LV; have LV := LV'; clear LV'
  clear hs
  go_wp2_with fail
  go_at_call 12
  refine (markFE_any g0.A g0.n g0.xs _ (1) _ _ _ _ (He.front [_, _, _] LV.out) (by rw [Ng0.out]; exact hr0) (by have := Ng0.out; have := Ng1.out; omega) (by first | rfl | omega | (push_cast; omega))).mono ?_
  rintro e v22 ⟨rfl, hlv, hs⟩
  have LV' := Lib.hid hlv; clear LV hlv; have LV := LV'; clear LV'
  have S' := Lib.hid (since_mark S.out hs); clear S hs; have S := S'; clear S'
  go_wp2_with fail
  go_at_call 12
  refine (markFE_any g1.A g1.n g1.xs _ (1 + g0.n) _ _ _ _ (He.front [_, _, _, _] LV.out) (by rw [Ng1.out]; exact hr1) (by have := Ng0.out; have := Ng1.out; omega) (by first | rfl | omega | (push_cast; omega))).mono ?_
  rintro e v23 ⟨rfl, hlv, hs⟩
  have LV' := Lib.hid hlv; clear LV hlv; have LV := LV'; clear LV'
  have S' := Lib.hid (since_mark S.out hs); clear S hs; have S := S'; clear S'
  go_wp2_with fail
  go_at_call 13
  refine (heldFE_any g0.A g0.n _ (1) _ _ _ ((LV.out.2.1.1)) (by rw [Ng0.out]; exact hr0) (by have := Ng0.out; have := Ng1.out; omega) (by first | rfl | omega | (push_cast; omega))).mono ?_
  rintro e v ⟨rfl, rfl⟩
  go_wp2_with fail
  go_at_call 13
  refine (heldFE_any g1.A g1.n _ (1 + g0.n) _ _ _ ((LV.out.1.1)) (by rw [Ng1.out]; exact hr1) (by have := Ng0.out; have := Ng1.out; omega) (by first | rfl | omega | (push_cast; omega))).mono ?_
  rintro e v ⟨rfl, rfl⟩
  go_wp2_with fail
  go_at_call 24
  refine (toIE_any A0 n0 c0 x0 w _ F0.out S.out hn0).mono ?_
  rintro e v24 ⟨rfl, hg, hs⟩
  have LV' := Lib.hid (LV.out.new hs hg S.out.size); clear LV; have LV := LV'; clear LV'
  have S' := Lib.hid (since_step S.out hs); clear S; have S := S'; clear S'
  clear hs hg
  go_wp2_with fail
  go_at_call 9
  refine (toFE_any A2 n2 c2 x2 w _ F2.out S.out hn2).mono ?_
  rintro e v25 ⟨rfl, hg, hs⟩
  have LV' := Lib.hid (LV.out.new hs hg S.out.size); clear LV; have LV := LV'; clear LV'
  have S' := Lib.hid (since_step S.out hs); clear S; have S := S'; clear S'
  clear hs hg
  go_wp2_with fail
  go_at_call 9
  refine (toFE_any A4 n4 c4 x4 w _ F4.out S.out hn4).mono ?_
  rintro e v26 ⟨rfl, hg, hs⟩
  have LV' := Lib.hid (LV.out.new hs hg S.out.size); clear LV; have LV := LV'; clear LV'
  have S' := Lib.hid (since_step S.out hs); clear S; have S := S'; clear S'
  clear hs hg
  go_wp2_with fail
  go_at_call 25
  refine (HIM.out _ _ _ _ ((LV.out.2.2.1.1).readI) ((LV.out.2.1.1).readF) ((LV.out.1.1).readF)).mono ?_
  rintro e v27 ⟨h0, h1, kh0, kh1, rfl, hnh0, hnh1, hgh0, hgh1, hfh0, hfh1, hdj, hs⟩
  have LV' := Lib.hid ((LV.out.2.2.2).new2 hs hgh0 hgh1 hdj S.out.size); clear LV; have LV := LV'; clear LV'
  have S' := Lib.hid (since_step S.out hs); clear S; have S := S'; clear S'
  have Kh0 := Lib.hid hfh0; have Nh0 := Lib.hid hnh0; clear hfh0 hgh0 hnh0
  have Kh1 := Lib.hid hfh1; have Nh1 := Lib.hid hnh1; clear hfh1 hgh1 hnh1
  clear hs hdj
  go_wp2_with fail
  go_at_call 11
  refine (eqL_any h0 w0 _ _ _ _ (LV.out.1.1).readF (LV.out.2.2.2.2.2.2.2.1.1).readF (by rw [Nh0.out]; exact hr0) (Nw0.out.trans Nh0.out.symm) Kh0.out Kw0.out).mono ?_
  rintro e v28 ⟨rfl, hs⟩
  have S' := Lib.hid (since_step S.out hs); clear S; have S := S'; clear S'
  have LV' := Lib.hid (LV.out.since hs); clear LV; have LV := LV'; clear LV'
  clear hs
  go_wp2_with fail
  go_at_call 11
  refine (eqL_any h1 w1 _ _ _ _ (LV.out.2.1.1).readF (LV.out.2.2.2.2.2.2.2.2.1.1).readF (by rw [Nh1.out]; exact hr1) (Nw1.out.trans Nh1.out.symm) Kh1.out Kw1.out).mono ?_
  rintro e v29 ⟨rfl, hs⟩
  have S' := Lib.hid (since_step S.out hs); clear S; have S := S'; clear S'
  have LV' := Lib.hid (LV.out.since hs); clear LV; have LV := LV'; clear LV'
  clear hs
  go_wp2_with fail
  go_at_call 13
  refine (heldFE_any g0.A g0.n _ (1) _ _ _ ((LV.out.2.2.2.1.1)) (by rw [Ng0.out]; exact hr0) (by have := Ng0.out; have := Ng1.out; omega) (by first | rfl | omega | (push_cast; omega))).mono ?_
  rintro e v ⟨rfl, rfl⟩
  go_wp2_with fail
  go_at_call 13
  refine (heldFE_any g1.A g1.n _ (1 + g0.n) _ _ _ ((LV.out.2.2.1.1)) (by rw [Ng1.out]; exact hr1) (by have := Ng0.out; have := Ng1.out; omega) (by first | rfl | omega | (push_cast; omega))).mono ?_
  rintro e v ⟨rfl, rfl⟩
  go_wp2_with fail
  go_ret
  exact ⟨rfl, S.out⟩
set_option maxHeartbeats 2000000 in
set_option maxRecDepth 100000 in
theorem lawRunChorus_big (A0 : Option Addr) (n0 c0 : Nat) (a1 : Nat) (A2 : Option Addr) (n2 c2 : Nat) (a3 : Int) (A4 : Option Addr) (n4 c4 : Nat) (w : World) (h : 1048576 < n0 ∨ 1048576 < n2 ∨ 1048576 < n4)
    
    : Calls Try.prog 6 #[.slice A0 n0 c0, .float .f32 a1, .slice A2 n2 c2, .int .i64 a3, .slice A4 n4 c4] w fun e w' => e = .returned (.bool true) ∧ w.Since w.heap.size w' := by
  by_cases b0 : 1048576 < n0
  · have hd0 : decide ((1048576 : Int) < n0) = true := decide_eq_true (by omega)
    go_enter Try.func6, Try.ntmps6
    go_wp2
    go_ret
    exact ⟨rfl, by (repeat (first | (with_reducible refine Fl.sinDrew ?_) | (with_reducible refine World.Since.drew ?_) | (with_reducible refine Fl.sinSet ?_ ?_; rotate_left) | (with_reducible refine Fl.sinAlloc ?_ ?_; rotate_left) | with_reducible exact World.Since.refl _ _ | with_reducible assumption | (with_reducible refine Fl.sinStep (by with_reducible assumption) ?_))); all_goals (first | omega | (simp; done) | (simp; omega) | (simp [go_sem]; done) | (simp [go_sem]; omega))⟩
  · have hd0 : decide ((1048576 : Int) < n0) = false := decide_eq_false (by omega)
    by_cases b2 : 1048576 < n2
    · have hd2 : decide ((1048576 : Int) < n2) = true := decide_eq_true (by omega)
      go_enter Try.func6, Try.ntmps6
      go_wp2
      go_ret
      exact ⟨rfl, by (repeat (first | (with_reducible refine Fl.sinDrew ?_) | (with_reducible refine World.Since.drew ?_) | (with_reducible refine Fl.sinSet ?_ ?_; rotate_left) | (with_reducible refine Fl.sinAlloc ?_ ?_; rotate_left) | with_reducible exact World.Since.refl _ _ | with_reducible assumption | (with_reducible refine Fl.sinStep (by with_reducible assumption) ?_))); all_goals (first | omega | (simp; done) | (simp; omega) | (simp [go_sem]; done) | (simp [go_sem]; omega))⟩
    · have hd2 : decide ((1048576 : Int) < n2) = false := decide_eq_false (by omega)
      by_cases b4 : 1048576 < n4
      · have hd4 : decide ((1048576 : Int) < n4) = true := decide_eq_true (by omega)
        go_enter Try.func6, Try.ntmps6
        go_wp2
        go_ret
        exact ⟨rfl, by (repeat (first | (with_reducible refine Fl.sinDrew ?_) | (with_reducible refine World.Since.drew ?_) | (with_reducible refine Fl.sinSet ?_ ?_; rotate_left) | (with_reducible refine Fl.sinAlloc ?_ ?_; rotate_left) | with_reducible exact World.Since.refl _ _ | with_reducible assumption | (with_reducible refine Fl.sinStep (by with_reducible assumption) ?_))); all_goals (first | omega | (simp; done) | (simp; omega) | (simp [go_sem]; done) | (simp [go_sem]; omega))⟩
      · have hd4 : decide ((1048576 : Int) < n4) = false := decide_eq_false (by omega)
        omega
end Go.Proofs.Ytbjhioolfighdaa

/- The law of RunChorus. -/
set_option linter.unusedVariables false
set_option linter.unusedSimpArgs false
namespace Go.Proofs.Ytbjhioolfighdaa
open Fl Go.RowKit
theorem lawRunChorus_any (A0 : Option Addr) (n0 c0 : Nat) (x0 : List Int) (a1 : Nat) (A2 : Option Addr) (n2 c2 : Nat) (x2 : List Nat) (a3 : Int) (A4 : Option Addr) (n4 c4 : Nat) (x4 : List Nat) (w : World)
    (h0 : Is w w.heap.size A0 n0 x0) (hi0 : ∀ k, k < n0 → (Lit.int .i64 (wi x0 k)).wf = true) (hb0 : n0 ≤ 9223372036854775807) (h1 : Fv .f32 a1 (ab .f32 a1)) (h2 : Fs w w.heap.size A2 n2 x2) (hb2 : n2 ≤ 9223372036854775807) (h3 : (Lit.int .i64 a3).wf = true) (h4 : Fs w w.heap.size A4 n4 x4) (hb4 : n4 ≤ 9223372036854775807) :
    Calls Try.prog 6 #[.slice A0 n0 c0, .float .f32 a1, .slice A2 n2 c2, .int .i64 a3, .slice A4 n4 c4] w fun e w' => e = .returned (.bool true) ∧ w.Since w.heap.size w' := by
  by_cases h : 1048576 < n0 ∨ 1048576 < n2 ∨ 1048576 < n4
  · exact lawRunChorus_big A0 n0 c0 a1 A2 n2 c2 a3 A4 n4 c4 w h
  · have hn0 : n0 ≤ 1048576 := by omega
    have hn2 : n2 ≤ 1048576 := by omega
    have hn4 : n4 ≤ 1048576 := by omega
    by_cases ho : chOk x0 n0 n2 a3 n4
    · obtain ⟨k1, k2, k3, k4, k5⟩ := ho
      obtain ⟨a, rfl⟩ := Int.eq_ofNat_of_zero_le k3.1
      exact lawRunChorus_gen A0 n0 c0 x0 a1 A2 n2 c2 x2 (a : Int) A4 n4 c4 x4 n4 (fun k => chY x0 n0 a n2 x2 x4 a1 k) n2 (fun i => chS n2 x2 x4 (n4 + i)) true w h0 hn0 h2 hn2 h4 hn4 hn4 hn2
        (fun v b b' b'' g0 g2 g4 => specRunChorus_ok b n0 x0 a1 b' n2 x2 a b'' n4 x4 v g0 g2 g4 k1 k2 h1.1 (by omega) k4 k5)
        (fun v b b' b'' g0 g2 g4 => implRunChorus_ok b n0 x0 a1 b' n2 x2 a b'' n4 x4 v g0 g2 g4 k1 k2 h1.1 (by omega) k4 k5)
    · exact lawRunChorus_gen A0 n0 c0 x0 a1 A2 n2 c2 x2 a3 A4 n4 c4 x4 0 (fun _ => none) 0 (fun _ => none) false w h0 hn0 h2 hn2 h4 hn4 (by omega) (by omega)
        (fun v b b' b'' g0 g2 g4 => specRunChorus_no b n0 x0 a1 b' n2 a3 b'' n4 v g0 hn0 hn2 ho _ _)
        (fun v b b' b'' g0 g2 g4 => implRunChorus_no b n0 x0 a1 b' n2 a3 b'' n4 v g0 hn0 hn2 ho _ _)
end Go.Proofs.Ytbjhioolfighdaa

