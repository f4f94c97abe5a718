/- Meters: held peaks, both sides. -/
import Derived.Test.YtcpcfgdncinpgaaEe
import Derived.Test.YtcpcfgdncinpgaaEg
import Derived.Test.YtcpcfgdncinpgaaEo
set_option linter.unusedVariables false
set_option linter.unusedSimpArgs false
namespace Go.Proofs.Ytcpcfgdncinpgaa
open Fl Go.RowKit
/-- a size, where a not-a-number counts as nothing -/
def zsO (x : O) : O := if x.isNone then some 0 else sizeO x
def holdH (X : Nat → O) (F : O) (H : O) : Nat → O
  | 0 => H
  | k + 1 => if gtO (zsO (X k)) (mu (holdH X F H k) F) then zsO (X k) else mu (holdH X F H k) F
theorem sizeO_none {x : O} : (sizeO x).isNone = x.isNone := by unfold sizeO; cases x <;> rfl
theorem zs_fv {b : Nat} {X : O} (h : Hid (Fv .f32 b X)) : Hid (Fv .f32 (if X.isNone then 0 else sizeS b) (zsO X)) := by
  unfold zsO
  cases e : X.isNone
  · exact sizeS_fv h
  · exact fv0
theorem self_size {b : Nat} (h : Hid (Fv .f32 b (ab .f32 b))) : FloatKind.f32.format.order (sizeS b) (sizeS b) = if (ab .f32 b).isNone then none else some .eq := by
  rw [order_self, (sizeS_fv h).out.2]; cases ab .f32 b <;> rfl
set_option maxHeartbeats 4000000 in
set_option maxRecDepth 100000 in
theorem specHold_ok (A : Option Addr) (n c : Nat) (xs : List Nat) (q f : Nat) (Q F : O) (w : World) (hA : Fs w w.heap.size A n xs) (hn : n ≤ 256) (hq : Hid (Fv .f32 q Q)) (hf : Hid (Fv .f32 f F)) :
    Calls Try.prog 46 #[.slice A n c, .float .f32 q, .float .f32 f] w (PLB n (fun k => holdH (fun k => ab .f32 (wd xs k)) F Q (k + 1)) true w) := by
  have hfew : decide ((n : Int) ≤ 256) = true := decide_eq_true (by omega)
  have HA := Lib.hid hA
  clear hA
  go_enter Try.func46, Try.ntmps46
  go_wp2_with (first | (go_at_call 50; refine (specFew_any _ _ _ _ _ hfew).mono ?_; rintro e w' ⟨rfl, rfl⟩))
  go_loopw [1, 8, 9] (fun hv v i wr => ∃ k h : Nat, k ≤ n ∧ i = .int .i64 k ∧ hv = .float .f32 h ∧ Hid (Fv .f32 h (holdH (fun k => ab .f32 (wd xs k)) F Q k)) ∧ Rw w.heap.size wr v k (fun k => holdH (fun k => ab .f32 (wd xs k)) F Q (k + 1)) ∧ w.Since w.heap.size wr) (fun _ _ i _ => n - (intOf i).toNat)
  case atStart => exact ⟨0, q, Nat.zero_le _, rfl, rfl, hq, Rw.start w _ (Nat.le_refl _) _, (World.Since.refl _ _).alloc (Nat.le_refl _) _⟩
  case round =>
    obtain ⟨k, h, hk, rfl, rfl, hh, hr, hs⟩ := hrel
    have HR := Lib.hid hr; have HS := Lib.hid hs
    clear hr hs
    by_cases hlt : k < n
    · obtain ⟨g, off, rfl, hg, hc⟩ := HA.out.2.2 (by omega)
      have hcell : wr.cell? ⟨g, off + k, none⟩ = some (.float .f32 (wd xs k)) := (HS.out.cell (a := ⟨g, off + k, none⟩) hg).trans (hc k hlt)
      have hx : Hid (Fv .f32 (wd xs k) (ab .f32 (wd xs k))) := Lib.hid ⟨HA.out.2.1.at_ k, rfl⟩
      have hsz := HS.out.size
      have eH : Hid (holdH (fun k => ab .f32 (wd xs k)) F Q (k + 1) = if gtO (zsO (ab .f32 (wd xs k))) (mu (holdH (fun k => ab .f32 (wd xs k)) F Q k) F) then zsO (ab .f32 (wd xs k)) else mu (holdH (fun k => ab .f32 (wd xs k)) F Q k) F) := Lib.hid rfl
      have hz := zs_fv hx
      have h0 := self_size hx
      clear hc
      go_wp2_with (first | (with_reducible_and_instances refine Lo.wpList_fo _ rfl _ _ _ _ _ rfl _ _ _ _ _ rfl rfl rfl (by assumption) (by assumption) ?_; intro rr nn hrr) | fail)
      have g1 := gt_fv hz hrr
      refine (specSize_any _ _ hx.out.1).mono ?_
      rintro e w' ⟨rfl, rfl⟩
      cases en : (ab .f32 (wd xs k)).isNone
      all_goals
        rw [en] at g1 hz h0
        simp only [if_true, if_false, Bool.false_eq_true] at g1 hz h0
        have eH1 := eH.out
        cases e1 : gtO (zsO (ab .f32 (wd xs k))) (mu (holdH (fun k => ab .f32 (wd xs k)) F Q k) F)
        all_goals
          rw [e1] at g1 eH1
          simp only [if_true, if_false, Bool.false_eq_true] at eH1
          first
            | (have hy : Hid (Fv .f32 rr (holdH (fun k => ab .f32 (wd xs k)) F Q (k + 1))) := by rw [eH1]; exact hrr
               have EH := Lib.hid eH1; clear eH eH1
               go_wp2_with (first | (at_builtin; refine wpList_app1 rfl (.tmp 36) (.tmp 38) rfl w.heap.size _ k _ rfl _ _ rfl (by simp [go_sem]) (by omega) (by simp; omega) hy ((HR.out.drewN _).alloc _) ?_; intro v' w3 hR3 hS3)))
            | (have hy := hz; rw [← eH1] at hy
               have EH := Lib.hid eH1; clear eH eH1
               go_wp2_with (first | (at_builtin; refine wpList_app1 rfl (.tmp 36) (.tmp 38) rfl w.heap.size _ k _ rfl _ _ rfl (by simp [go_sem]) (by omega) (by simp; omega) hy ((HR.out.drewN _).alloc _) ?_; intro v' w3 hR3 hS3)))
          go_roundw
          case rel => exact ⟨k + 1, _, by omega, by go_num, rfl, hy, hR3.out, HS.out.trans (((since_drewN (World.Since.refl _ _) _).alloc hsz _).trans hS3.out)⟩
          case measure => simp [intOf]; omega
    · obtain rfl : k = n := by omega
      obtain ⟨p, cp, rfl, rfl, hg, ha⟩ := HR.out.done
      have HG := Lib.hid hg; have HAA := Lib.hid ha; clear hg ha
      go_wp2
      go_ret2
      exact ⟨p, cp, rfl, rfl, HG.out, HAA.out, HS.out⟩
theorem specHold_no (A : Option Addr) (n c q f : Nat) (w : World) (hn : ¬ n ≤ 256) (G : Nat → O) : Calls Try.prog 46 #[.slice A n c, .float .f32 q, .float .f32 f] w (PLB 0 G false w) := by
  have hfew : decide ((n : Int) ≤ 256) = false := decide_eq_false (by omega)
  go_enter Try.func46, Try.ntmps46
  go_wp2_with (first | (go_at_call 50; refine (specFew_any _ _ _ _ _ hfew).mono ?_; rintro e w' ⟨rfl, rfl⟩))
  go_ret2
  exact PLB.none_ (by (repeat (first | (with_reducible refine Fl.sinDrew ?_) | (with_reducible refine World.Since.drew ?_) | (with_reducible refine Fl.sinSet ?_ ?_; rotate_left) | (with_reducible refine Fl.sinAlloc ?_ ?_; rotate_left) | with_reducible exact World.Since.refl _ _ | with_reducible assumption | (with_reducible refine Fl.sinStep (by with_reducible assumption) ?_))); all_goals (first | omega | (simp; done) | (simp; omega) | (simp [go_sem]; done) | (simp [go_sem]; omega))) _
theorem implHold_no (A : Option Addr) (n c q f : Nat) (w : World) (hn : ¬ n ≤ 256) (G : Nat → O) : Calls Try.prog 47 #[.slice A n c, .float .f32 q, .float .f32 f] w (PLB 0 G false w) := by
  have hfew : decide ((n : Int) ≤ 256) = false := decide_eq_false (by omega)
  go_enter Try.func47, Try.ntmps47
  go_wp2_with (first | (go_at_call 53; refine (implSamples_b _ _ _ _ _ hfew).mono ?_; rintro e w' ⟨rfl, rfl⟩))
  go_ret2
  exact PLB.none_ (by (repeat (first | (with_reducible refine Fl.sinDrew ?_) | (with_reducible refine World.Since.drew ?_) | (with_reducible refine Fl.sinSet ?_ ?_; rotate_left) | (with_reducible refine Fl.sinAlloc ?_ ?_; rotate_left) | with_reducible exact World.Since.refl _ _ | with_reducible assumption | (with_reducible refine Fl.sinStep (by with_reducible assumption) ?_))); all_goals (first | omega | (simp; done) | (simp; omega) | (simp [go_sem]; done) | (simp [go_sem]; omega))) _
theorem cell_own {W : World} {a : Addr} {u v : Value} (h : W.cell? a = some u) : (W.setCell a v).cell? a = some v := by simp [go_sem, h]
/-- a box of one cell -/
def B1 (W : World) (g : Nat) (v : Value) (T : TypeId) : Prop := W.heap[g]? = some (.cells #[v] T (0, 0))
theorem B1.at_ {W : World} {g : Nat} {v : Value} {T : TypeId} (h : B1 W g v T) : W.cell? ⟨g, 0, none⟩ = some v := by unfold B1 at h; simp [World.cell?, h]
theorem B1.free {W : World} {g o : Nat} {v : Value} {T : TypeId} (h : B1 W g v T) : W.frozen? ⟨g, o, none⟩ = false := by unfold B1 at h; simp [World.frozen?, h]
theorem B1.lt {W : World} {g : Nat} {v : Value} {T : TypeId} (h : B1 W g v T) : g < W.heap.size := (Array.getElem?_eq_some_iff.1 h).1
theorem B1.set {W : World} {g : Nat} {u v : Value} {T : TypeId} (h : B1 W g u T) : B1 (W.setCell ⟨g, 0, none⟩ v) g v T := by unfold B1 at h ⊢; simp [World.setCell, Array.getElem?_modify, h]
theorem B1.of {W V : World} {g : Nat} {u : Value} {T : TypeId} (h : B1 W g u T) (e : V.heap[g]? = W.heap[g]?) : B1 V g u T := e.trans h
theorem B1.drewN {W : World} {g : Nat} {u : Value} {T : TypeId} (h : B1 W g u T) (n : Nat) : B1 (W.drewN n) g u T := h
theorem B1.new (W : World) (v : Value) (T : TypeId) : B1 (W.alloc (.cells #[v] T)) W.heap.size v T := Go.Deep.blk_alloc_new _ _
set_option maxHeartbeats 4000000 in
set_option maxRecDepth 100000 in
theorem holdClos_any (x h f gb fb : Nat) (X H F Z : O) (hZ : Hid (Z = if gtO (zsO X) (mu H F) then zsO X else mu H F)) (W : World) (hx : Hid (Fv .f32 x X)) (hh : Hid (Fv .f32 h H)) (hf : Hid (Fv .f32 f F)) (hb : Hid (B1 W gb (.float .f32 h) 23)) (hd : W.cell? ⟨fb, 0, none⟩ = some (.float .f32 f)) (hne : gb ≠ fb) :
    Calls Try.prog 94 #[.float .f32 x, .pointer (some ⟨gb, 0, none⟩), .pointer (some ⟨fb, 0, none⟩)] W fun e W' => ∃ r, e = .returned (.float .f32 r) ∧ Hid (Fv .f32 r Z) ∧ B1 W' gb (.float .f32 r) 23 ∧ On gb W W' := by
  have hc := hb.out.at_; have hz : W.frozen? ⟨gb, 0, none⟩ = false := hb.out.free
  have hs := sizeN_fv hx
  have hxl := hx.out.1
  go_enter Try.func94, Try.ntmps94
  go_wp2_with (first | (with_reducible_and_instances refine Lo.wpList_fo _ rfl _ _ _ _ _ rfl _ _ _ _ _ rfl rfl rfl (by assumption) (by assumption) ?_; intro rr nn hrr) | fail)
  refine (implSize_any _ _ hxl).mono ?_
  rintro e w' ⟨rfl, rfl⟩
  have hn : nanB (sizeN x) = X.isNone := by rw [nanB_ab, hs.out.2, sizeO_none]
  have hsl := hs.out.1
  have hz2 : Hid (Fv .f32 (if X.isNone then 0 else sizeN x) (zsO X)) := by
    unfold zsO
    cases e : X.isNone
    · exact hs
    · exact fv0
  have g1 := gt_fv hz2 hrr
  cases en : X.isNone
  all_goals
    rw [en] at g1 hz2 hn
    simp only [if_true, if_false, Bool.false_eq_true] at g1 hz2
    cases e1 : gtO (zsO X) (mu H F)
    all_goals
      rw [e1] at g1
      have hZ2 := hZ.out
      rw [e1] at hZ2
      simp only [if_true, if_false, Bool.false_eq_true] at hZ2
      subst hZ2
      go_wp2_with (first | (go_at_call 96; refine (patternOf_any _ _).mono ?_; rintro e w' ⟨rfl, rfl⟩) | (go_at_call 97; refine (isNaN_any _ _ hsl).mono ?_; rintro e w' ⟨rfl, rfl⟩; rw [hn]))
      go_ret
      first
        | exact ⟨_, rfl, hz2, ((hb.out.set).drewN _).set, (((On.refl _ _).set _ _).drewN _).set _ _⟩
        | exact ⟨_, rfl, hrr, (hb.out.drewN _).set, (((On.refl _ _).drewN _).set _ _)⟩
set_option maxHeartbeats 4000000 in
set_option maxRecDepth 100000 in
theorem implHold_ok (A : Option Addr) (n c : Nat) (xs : List Nat) (q f : Nat) (Q F : O) (w : World) (hA : Fs w w.heap.size A n xs) (hn : n ≤ 256) (hq : Hid (Fv .f32 q Q)) (hf : Hid (Fv .f32 f F)) :
    Calls Try.prog 47 #[.slice A n c, .float .f32 q, .float .f32 f] w (PLB n (fun k => holdH (fun k => ab .f32 (wd xs k)) F Q (k + 1)) true w) := by
  have hfew : decide ((n : Int) ≤ 256) = true := decide_eq_true (by omega)
  have HA := Lib.hid hA
  clear hA
  obtain ⟨W1, hW1⟩ : ∃ W, W = (w.alloc (.cells #[.float .f32 q] 23)).alloc (.cells #[.float .f32 f] 23) := ⟨_, rfl⟩
  have S1 : Hid (w.Since w.heap.size W1) := Lib.hid (by rw [hW1]; exact ((World.Since.refl _ _).alloc (Nat.le_refl _) _).alloc (by simp) _)
  have z1 : Hid (W1.heap.size = w.heap.size + 2) := Lib.hid (by rw [hW1]; simp)
  have C1 : Hid (B1 W1 w.heap.size (.float .f32 q) 23 ∧ B1 W1 (w.heap.size + 1) (.float .f32 f) 23) := Lib.hid (by rw [hW1]; exact ⟨(B1.new w _ _).of (blk_keep _ (by simp)), by have := B1.new (w.alloc (.cells #[.float .f32 q] 23)) (.float .f32 f) 23; simpa using this⟩)
  go_enter Try.func47, Try.ntmps47
  go_wp2_with (first | (go_at_call 53; refine (implSamples_b _ _ _ _ _ hfew).mono ?_; rintro e w' ⟨rfl, rfl⟩) | fail)
  rw [← hW1]
  have hz1 := z1.out
  refine (results_any A n c xs 94 #[.pointer (some ⟨w.heap.size, 0, none⟩), .pointer (some ⟨w.heap.size + 1, 0, none⟩)] w.heap.size (fun k W => (∃ h, B1 W w.heap.size (.float .f32 h) 23 ∧ Hid (Fv .f32 h (holdH (fun k => ab .f32 (wd xs k)) F Q k))) ∧ B1 W (w.heap.size + 1) (.float .f32 f) 23) (fun k => holdH (fun k => ab .f32 (wd xs k)) F Q (k + 1)) W1 (HA.out.since S1.out) (by omega) hn (fun _ _ => rfl) ?hI ?hst ⟨⟨q, C1.out.1, hq⟩, C1.out.2⟩).mono ?_
  case hI => exact fun k W W' ⟨⟨h, h1, h1'⟩, h6⟩ h2 h3 h4 => ⟨⟨h, h1.of (h4 _ (by omega)), h1'⟩, h6.of (h4 _ (by omega))⟩
  case hst =>
    rintro k q W hk rfl ⟨⟨h, h1, h1'⟩, h6⟩ hs
    exact (holdClos_any _ h f w.heap.size (w.heap.size + 1) _ _ _ _ (Lib.hid rfl) W (Lib.hid ⟨HA.out.2.1.at_ k, rfl⟩) h1' hf (Lib.hid h1) h6.at_ (by omega)).mono fun e W' ⟨r, e1, e2, e3, e4⟩ => ⟨r, e1, e2, ⟨⟨r, e3, e2⟩, h6.of (e4.2 _ h6.lt (by omega))⟩, e4⟩
  rintro e w2 ⟨ys, rfl, hg, ha, _, ho⟩
  rw [hz1] at hg
  have HG := Lib.hid hg; have HAA := Lib.hid ha; have HO := Lib.hid ho; clear hg ha ho
  go_wp2
  go_ret2
  exact ⟨⟨some ⟨w.heap.size + 2, 0, none⟩, n, ys⟩, n, rfl, rfl, HG.out.less (by omega), HAA.out, S1.out.trans (HO.out.since (Nat.le_refl _))⟩
end Go.Proofs.Ytcpcfgdncinpgaa
