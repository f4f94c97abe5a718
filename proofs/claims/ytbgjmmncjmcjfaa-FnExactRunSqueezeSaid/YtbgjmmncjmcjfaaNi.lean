/- The given statements of these laws: the frames round the walks. -/
import Derived.Test.YtbgjmmncjmcjfaaRows
import Derived.Test.YtbgjmmncjmcjfaaFr
import Derived.Test.YtbgjmmncjmcjfaaIn
import Derived.WalkKit
import Derived.ProofKit
import Derived.OpenShut
import Derived.Laws.Cover2
set_option linter.unusedVariables false
set_option linter.unusedSimpArgs false

namespace Go.Proofs.Ytbgjmmncjmcjfaa.fnExactRunSqueeze
open Go.ChangeShapes Go.WideShapes Go.ChangeAt Go.RowKit
theorem own : ownKnob Try.prog.godebug = none := by kernel_rfl
set_option maxRecDepth 100000 in
theorem lifted (os : Os) (started : os.Started) (H : Type) (enc : TypeId × Value → H) :
    ReturnsInHanded {} Try.checked os 11 .any (Rows.fnExactRunSqueezeSpec.pre6 enc Try.prog Try.f11 Rows.fnExactRunSqueezeRow.domain false) (Rows.fnExactRunSqueezeSpec.post enc Try.prog Try.f11 false true false false) := by
  refine returnsInHanded_of_change (C := Try.checked) own started (by kernel_rfl) Try.func11
    (ChangeSpec.witness6 (enc := enc) (C := Try.checked) false ⟨#[], #[.agg #[.float .f32 0, .float .f32 0, .float .f32 0, .float .f32 0, .float .f32 0], .slice none 0 0], []⟩ 8 (by kernel_rfl) (by kernel_rfl) (by kernel_rfl) (by kernel_rfl)) ?_
  intro W base args ds gs before hval0 hW hcnd _
  have hval : ∀ (j : Nat) t v, Try.f11.params[j]? = some t → args[j]? = some v → Value.okWide Try.prog W .any base t v := hval0
  have hW' := hW
  obtain ⟨p, q, hA0, hV, rfl, hfz, hnd⟩ := hW
  have hA : DataW.TrodAll enc Try.prog W 0 (fun _ => true) true Try.f11.params.toList args.toList ds p := hA0
  rw [Try.params11] at hA hval
  obtain ⟨v0, vs0, d0, ds0, p0, q0, hargs, rfl, rfl, h0, r0⟩ := trodAll_cons hA
  obtain ⟨v1, vs1, d1, ds1, p1, q1, rfl, rfl, rfl, h1, r1⟩ := trodAll_cons r0
  obtain ⟨rfl, rfl, rfl⟩ := trodAll_nil r1
  obtain rfl : args = #[v0, v1] := by cases args; simp_all
  obtain ⟨rfl, rfl⟩ := trodVars_none hV
  obtain ⟨a0, rfl, w0⟩ := Fl.open_squ Try.underlying66 (by kernel_rfl) (by decide) (by decide +kernel) Try.underlying64 (by kernel_rfl) (by kernel_rfl) Try.underlying55 Try.underlying55 Try.underlying55 Try.underlying55 Try.underlying55 (hval 0 66 v0 rfl rfl) h0
  obtain ⟨a1, n1, c1, x1, rfl, w1, m1⟩ := Fl.open_fs Try.underlying22 Try.underlying55 (by kernel_rfl) (hval 1 22 v1 rfl rfl) h1
  clear hA0 hval0
  simp only [List.append_nil] at hW'
  refine (lawRunSqueeze_any a0 a1 n1 c1 x1 W w0 w1 m1).mono fun e W' ⟨he, hs⟩ => ?_
  subst he
  exact ⟨_, rfl, Fl.law_post hW' rfl (by kernel_rfl) Try.underlying4 rfl rfl rfl (by kernel_rfl) (by rw [Try.params11]; exact of_decide_eq_true (by kernel_rfl)) hs⟩
theorem over : Rows.fnExactRunSqueezeRow.holds Try.pinned (OpenSpec.ofChange Rows.fnExactRunSqueezeSpec) :=
  OpenClaim.holds_of_wide 11 Try.f11 rfl rfl rfl rfl rfl rfl rfl ⟨rfl, rfl, rfl, rfl, rfl⟩ rfl rfl rfl rfl rfl (by kernel_rfl) Try.func11 (by kernel_rfl)
    (of_decide_eq_true (by kernel_rfl)) (by unfold Func.isWrapper; first | (rw [if_pos (by decide +kernel)]; kernel_rfl) | (rw [if_neg (by decide +kernel)]; exact ⟨rfl, rfl⟩))
    (fun os started H enc _ => lifted os started H enc)
theorem proved : Rows.FnExactRunSqueezeSaid := over
end Go.Proofs.Ytbgjmmncjmcjfaa.fnExactRunSqueeze

namespace Go.Proofs.Ytbgjmmncjmcjfaa.fnExactDuckSamples
open Go.ChangeShapes Go.WideShapes Go.ChangeAt Go.RowKit
theorem own : ownKnob Try.prog.godebug = none := by kernel_rfl
set_option maxRecDepth 100000 in
theorem lifted (os : Os) (started : os.Started) (H : Type) (enc : TypeId × Value → H) :
    ReturnsInHanded {} Try.checked os 12 .any (Rows.fnExactDuckSamplesSpec.pre6 enc Try.prog Try.f12 Rows.fnExactDuckSamplesRow.domain false) (Rows.fnExactDuckSamplesSpec.post enc Try.prog Try.f12 false true false false) := by
  refine returnsInHanded_of_change (C := Try.checked) own started (by kernel_rfl) Try.func12
    (ChangeSpec.witness6 (enc := enc) (C := Try.checked) false ⟨#[], #[.agg #[.float .f32 0, .float .f32 0, .float .f32 0, .float .f32 0, .float .f32 0], .slice none 0 0, .slice none 0 0], []⟩ 8 (by kernel_rfl) (by kernel_rfl) (by kernel_rfl) (by kernel_rfl)) ?_
  intro W base args ds gs before hval0 hW hcnd _
  have hval : ∀ (j : Nat) t v, Try.f12.params[j]? = some t → args[j]? = some v → Value.okWide Try.prog W .any base t v := hval0
  have hW' := hW
  obtain ⟨p, q, hA0, hV, rfl, hfz, hnd⟩ := hW
  have hA : DataW.TrodAll enc Try.prog W 0 (fun _ => true) true Try.f12.params.toList args.toList ds p := hA0
  rw [Try.params12] at hA hval
  obtain ⟨v0, vs0, d0, ds0, p0, q0, hargs, rfl, rfl, h0, r0⟩ := trodAll_cons hA
  obtain ⟨v1, vs1, d1, ds1, p1, q1, rfl, rfl, rfl, h1, r1⟩ := trodAll_cons r0
  obtain ⟨v2, vs2, d2, ds2, p2, q2, rfl, rfl, rfl, h2, r2⟩ := trodAll_cons r1
  obtain ⟨rfl, rfl, rfl⟩ := trodAll_nil r2
  obtain rfl : args = #[v0, v1, v2] := by cases args; simp_all
  obtain ⟨rfl, rfl⟩ := trodVars_none hV
  obtain ⟨a0, rfl, w0⟩ := Fl.open_squ Try.underlying66 (by kernel_rfl) (by decide) (by decide +kernel) Try.underlying64 (by kernel_rfl) (by kernel_rfl) Try.underlying55 Try.underlying55 Try.underlying55 Try.underlying55 Try.underlying55 (hval 0 66 v0 rfl rfl) h0
  obtain ⟨a1, n1, c1, x1, rfl, w1, m1⟩ := Fl.open_fs Try.underlying22 Try.underlying55 (by kernel_rfl) (hval 1 22 v1 rfl rfl) h1
  obtain ⟨a2, n2, c2, x2, rfl, w2, m2⟩ := Fl.open_fs Try.underlying22 Try.underlying55 (by kernel_rfl) (hval 2 22 v2 rfl rfl) h2
  clear hA0 hval0
  simp only [List.append_nil] at hW'
  refine (lawDuckSamples_any a0 a1 n1 c1 x1 a2 n2 c2 x2 W w0 w1 m1 w2 m2).mono fun e W' ⟨he, hs⟩ => ?_
  subst he
  exact ⟨_, rfl, Fl.law_post hW' rfl (by kernel_rfl) Try.underlying4 rfl rfl rfl (by kernel_rfl) (by rw [Try.params12]; exact of_decide_eq_true (by kernel_rfl)) hs⟩
theorem over : Rows.fnExactDuckSamplesRow.holds Try.pinned (OpenSpec.ofChange Rows.fnExactDuckSamplesSpec) :=
  OpenClaim.holds_of_wide 12 Try.f12 rfl rfl rfl rfl rfl rfl rfl ⟨rfl, rfl, rfl, rfl, rfl⟩ rfl rfl rfl rfl rfl (by kernel_rfl) Try.func12 (by kernel_rfl)
    (of_decide_eq_true (by kernel_rfl)) (by unfold Func.isWrapper; first | (rw [if_pos (by decide +kernel)]; kernel_rfl) | (rw [if_neg (by decide +kernel)]; exact ⟨rfl, rfl⟩))
    (fun os started H enc _ => lifted os started H enc)
theorem proved : Rows.FnExactDuckSamplesSaid := over
end Go.Proofs.Ytbgjmmncjmcjfaa.fnExactDuckSamples
