/- The laws of RunSqueeze and DuckSamples. -/
import Derived.Test.YtbgjmmncjmcjfaaIm
import Derived.Test.YtbgjmmncjmcjfaaFq
set_option linter.unusedVariables false
set_option linter.unusedSimpArgs false
namespace Go.Proofs.Ytbgjmmncjmcjfaa
section
open Go.ChangeShapes Go.WideShapes Go.Deep Go.RowKit
variable {H : Type} {enc : TypeId × Value → H} {P : Program} {w : World} {base : Nat} {spare : Nat → Bool} {held : Bool}
theorem trod_f3 {t : TypeId} {g0 g1 g2 : Field} {fuel : Nat} {cs : List Value} {x : DataW H × List MemPlace} (hs : P.underlying t = some (.struct #[g0, g1, g2])) (hone : oneCellFields P #[g0, g1, g2] = true) (hC : P.cellsOf t = 3)
    (h0 : P.underlying g0.type = some (.float .f32)) (h1 : P.underlying g1.type = some (.float .f32)) (h2 : P.underlying g2.type = some (.float .f32)) (h : DataW.trod enc P w base spare held fuel t cs = some x) :
    ∃ a r l, cs = [.float .f32 a, .float .f32 r, .float .f32 l] ∧ a < 4294967296 ∧ r < 4294967296 ∧ l < 4294967296 := by
  obtain ⟨xs, n, _, rfl, hl, hlen, hf⟩ := DataW.trod_struct hs h
  rw [hC] at hl
  match cs, hl, xs, hlen with
  | [c0, c1, c2], _, [y0, y1, y2], _ =>
    have e0 := hf 0 g0 rfl
    have e1 := hf 1 g1 rfl
    have e2 := hf 2 g2 rfl
    obtain ⟨o0, k0⟩ := hone_of hone 0 g0 rfl
    obtain ⟨o1, k1⟩ := hone_of hone 1 g1 rfl
    obtain ⟨o2, k2⟩ := hone_of hone 2 g2 rfl
    rw [o0, k0] at e0
    rw [o1, k1] at e1
    rw [o2, k2] at e2
    obtain ⟨a, ha, wa⟩ := Fl.trod_fl h0 (cs := [c0]) (x := y0) (by simpa using e0)
    obtain ⟨r, hr, wr⟩ := Fl.trod_fl h1 (cs := [c1]) (x := y1) (by simpa using e1)
    obtain ⟨l, hl, wl⟩ := Fl.trod_fl h2 (cs := [c2]) (x := y2) (by simpa using e2)
    injection ha with ha _; injection hr with hr _; injection hl with hl _
    subst ha; subst hr; subst hl
    exact ⟨a, r, l, rfl, Fl.wf_f32 wa, Fl.wf_f32 wr, Fl.wf_f32 wl⟩
theorem Fl.open_squ {r : Reach} {b0 : Nat} {t : TypeId} {f0 f1 f2 g0 g1 g2 : Field} {v : Value} {d : DataW H} {p : List MemPlace} (hs : P.underlying t = some (.struct #[f0, f1, f2])) (hC : P.cellsOf t = 5)
    (ho : f0.offset = 0 ∧ f1.offset = 3 ∧ f2.offset = 4) (hk : P.cellsOf f1.type = 1 ∧ P.cellsOf f2.type = 1)
    (hg : P.underlying f0.type = some (.struct #[g0, g1, g2])) (hone : oneCellFields P #[g0, g1, g2] = true) (hC0 : P.cellsOf f0.type = 3)
    (h0 : P.underlying g0.type = some (.float .f32)) (h1 : P.underlying g1.type = some (.float .f32)) (h2 : P.underlying g2.type = some (.float .f32))
    (h3 : P.underlying f1.type = some (.float .f32)) (h4 : P.underlying f2.type = some (.float .f32))
    (hv : Value.okWide P w r b0 t v) (h : DataW.Trod enc P w base spare held t v d p) :
    ∃ m : SquN, v = m.val ∧ FvSqu m ⟨Fl.ab .f32 m.a, Fl.ab .f32 m.r, Fl.ab .f32 m.l, Fl.ab .f32 m.t, Fl.ab .f32 m.q⟩ := by
  obtain ⟨cs, rfl, hsz⟩ := okWide_struct hs hv
  obtain ⟨fuel, hf⟩ := h
  obtain ⟨xs, n, _, hx, hl, hlen, hg'⟩ := DataW.trod_struct hs hf
  rw [hC] at hsz
  obtain ⟨cs⟩ := cs
  match cs, hsz, xs, hlen with
  | [c0, c1, c2, c3, c4], _, [y0, y1, y2], _ =>
    have e0 := hg' 0 f0 rfl
    have e1 := hg' 1 f1 rfl
    have e2 := hg' 2 f2 rfl
    rw [ho.1, hC0] at e0
    rw [ho.2.1, hk.1] at e1
    rw [ho.2.2, hk.2] at e2
    obtain ⟨a, r1, l, hc, wa, wr, wl⟩ := trod_f3 hg hone hC0 h0 h1 h2 (cs := [c0, c1, c2]) (x := y0) (by simpa [Value.cells] using e0)
    obtain ⟨t1, ht, wt⟩ := Fl.trod_fl h3 (cs := [c3]) (x := y1) (by simpa [Value.cells] using e1)
    obtain ⟨q, hq, wq⟩ := Fl.trod_fl h4 (cs := [c4]) (x := y2) (by simpa [Value.cells] using e2)
    injection hc with hc0 hc; injection hc with hc1 hc; injection hc with hc2 _
    injection ht with ht _; injection hq with hq _
    subst hc0; subst hc1; subst hc2; subst ht; subst hq
    exact ⟨⟨a, r1, l, t1, q⟩, rfl, ⟨Lib.hid (Fl.fvs wa), Lib.hid (Fl.fvs wr), Lib.hid (Fl.fvs wl), Lib.hid (Fl.fvs (Fl.wf_f32 wt)), Lib.hid (Fl.fvs (Fl.wf_f32 wq))⟩⟩
end
open Fl Go.RowKit
theorem lawRunSqueeze_any (d : SquN) (A1 : Option Addr) (n1 c1 : Nat) (x1 : List Nat) (w : World) (hD : FvSqu d ⟨ab .f32 d.a, ab .f32 d.r, ab .f32 d.l, ab .f32 d.t, ab .f32 d.q⟩) (h1 : Fs w w.heap.size A1 n1 x1) (m1 : n1 ≤ 9223372036854775807) :
    Calls Try.prog 11 #[d.val, .slice A1 n1 c1] w fun e w' => e = .returned (.bool true) ∧ w.Since w.heap.size w' := by
  by_cases b1 : 1048576 < n1
  · exact lawRunSqueeze_big d A1 n1 c1 w b1
  by_cases hn : n1 ≤ 256
  · exact lawRunSqueeze_gen d A1 n1 c1 x1 n1 _ _ true w h1 (by omega) (by omega) (fun v b g => specRunSq_ok d _ _ n1 _ x1 v hD g hn) (fun v b g => implRunSq_ok d _ _ n1 _ x1 v hD g hn)
  · exact lawRunSqueeze_gen d A1 n1 c1 x1 0 (fun _ => none) ⟨some 0, some 0, some 0, some 0, some 0⟩ false w h1 (by omega) (by omega) (fun v b g => specRunSq_no d _ n1 _ v hn _) (fun v b g => implRunSq_no d _ n1 _ v m1 hn _)
theorem lawDuckSamples_any (d : SquN) (A1 : Option Addr) (n1 c1 : Nat) (x1 : List Nat) (A2 : Option Addr) (n2 c2 : Nat) (x2 : List Nat) (w : World) (hD : FvSqu d ⟨ab .f32 d.a, ab .f32 d.r, ab .f32 d.l, ab .f32 d.t, ab .f32 d.q⟩) (h1 : Fs w w.heap.size A1 n1 x1) (m1 : n1 ≤ 9223372036854775807) (h2 : Fs w w.heap.size A2 n2 x2) (m2 : n2 ≤ 9223372036854775807) :
    Calls Try.prog 12 #[d.val, .slice A1 n1 c1, .slice A2 n2 c2] w fun e w' => e = .returned (.bool true) ∧ w.Since w.heap.size w' := by
  by_cases b1 : 1048576 < n1 ∨ 1048576 < n2
  · exact lawDuckSamples_big d A1 n1 c1 A2 n2 c2 w b1
  by_cases hn : n1 ≤ 256 ∧ n2 = n1
  · obtain ⟨hn, rfl⟩ := hn
    exact lawDuckSamples_gen d A1 _ c1 x1 A2 _ c2 x2 _ _ _ true w h1 (by omega) h2 (by omega) (by omega) (fun v b e g g2 => specDuckSq_ok d _ _ _ _ _ _ x1 x2 v hD g g2 hn) (fun v b e g g2 => implDuckSq_ok d _ _ _ _ _ _ x1 x2 v hD g g2 hn)
  · exact lawDuckSamples_gen d A1 n1 c1 x1 A2 n2 c2 x2 0 (fun _ => none) ⟨some 0, some 0, some 0, some 0, some 0⟩ false w h1 (by omega) h2 (by omega) (by omega) (fun v b e g g2 => specDuckSq_no d _ _ n1 n2 _ _ v hn _) (fun v b e g g2 => implDuckSq_no d _ _ n1 n2 _ _ v m1 hn _)
end Go.Proofs.Ytbgjmmncjmcjfaa
