/-
  No cell of these rows narrows 'for every input' (looked for: loops, veiled, ifaces, maps, wideKeys, modest, calm, conditions, laid).
  DERIVED. THE GIVEN ROWS OF THIS SEAT. 12 by the template 'for every input the law returns true; each argument reads behind the call as it read before'; 0 by the template 'total and deterministic' (their statements: YtfpoaaojbgmkpaaTotals.lean).
  GIVEN WITH THE SEED: the statements are not yours to turn. If you find one false, say at which input.
  Laid BY PROGRAM, IN A SANDBOX (cutbox-rows.mjs): the forced cells as the released guide's own fill.sh prints them over the translation fe3eee4e2be2e38e… (all of the seat's roots in one cut). By AI agents, Wed Nov 11 2026. No macro, syntax, notation, axiom, sorry.
-/
import Derived.Test.YtfpoaaojbgmkpaaChecked
import GoSem.Claim
import GoSem.ClaimJoined
import GoSem.ClaimMapViews
import Derived.JoinedTies
import Derived.KernelRfl
namespace Go.Proofs.Ytfpoaaojbgmkpaa
/- THE CELL 'sum', in the pinned program and in every row, IS THE sha256 OF THE DUMP (.gsa) THAT YtfpoaaojbgmkpaaProg.lean LOADS. Nothing in Lean hashes anything: it is a label: what it is worth is what the hold of that sum in a sandbox is worth. -/
noncomputable def Try.pinned : Pinned := { name := "ytfpoaaojbgmkpaa", sum := "fe3eee4e2be2e38e7cd0594567590f075d3fca4827e56f3dd54acca6427e41e3", checked := Try.checked }
namespace Rows
def none {H : Type} : Left H := { results := [], args := [] }

/-- 'laws.FnExactFollowLevel': WHATEVER THE INPUT: true; the input reads as it did. -/
def fnExactFollowLevelSpec : ChangeSpec := { name := "fnExactFollowLevel", fn := fun _ => fun
  | [d1, d2] => { results := [.lit (.bool true)], args := [d1, d2] }
  | _ => none }
def fnExactFollowLevelRow : OpenClaim := { program := "ytfpoaaojbgmkpaa", sum := "fe3eee4e2be2e38e7cd0594567590f075d3fca4827e56f3dd54acca6427e41e3", func := "loop.example/g01170/laws.FnExactFollowLevel", spec := "fnExactFollowLevel", inPlace := ["math.Float32bits", "math.Float32frombits"], unfollowed := true, recurses := true, apart := false }
def FnExactFollowLevelSaid : Prop := fnExactFollowLevelRow.holds Try.pinned (OpenSpec.ofChange fnExactFollowLevelSpec)

/-- ITS FALSE NEIGHBOUR: 'it returns false'. Refute it at one input. -/
def fnExactFollowLevelWrong : ChangeSpec := { name := "fnExactFollowLevel", fn := fun _ => fun
  | [d1, d2] => { results := [.lit (.bool false)], args := [d1, d2] }
  | _ => none }
def FnExactFollowLevelWrongFalsely : Prop := fnExactFollowLevelRow.holds Try.pinned (OpenSpec.ofChange fnExactFollowLevelWrong)

/-- 'laws.FnExactGainFor': WHATEVER THE INPUT: true; the input reads as it did. -/
def fnExactGainForSpec : ChangeSpec := { name := "fnExactGainFor", fn := fun _ => fun
  | [d1, d2, d3] => { results := [.lit (.bool true)], args := [d1, d2, d3] }
  | _ => none }
def fnExactGainForRow : OpenClaim := { program := "ytfpoaaojbgmkpaa", sum := "fe3eee4e2be2e38e7cd0594567590f075d3fca4827e56f3dd54acca6427e41e3", func := "loop.example/g01170/laws.FnExactGainFor", spec := "fnExactGainFor", apart := false }
def FnExactGainForSaid : Prop := fnExactGainForRow.holds Try.pinned (OpenSpec.ofChange fnExactGainForSpec)

/-- ITS FALSE NEIGHBOUR: 'it returns false'. Refute it at one input. -/
def fnExactGainForWrong : ChangeSpec := { name := "fnExactGainFor", fn := fun _ => fun
  | [d1, d2, d3] => { results := [.lit (.bool false)], args := [d1, d2, d3] }
  | _ => none }
def FnExactGainForWrongFalsely : Prop := fnExactGainForRow.holds Try.pinned (OpenSpec.ofChange fnExactGainForWrong)

/-- 'laws.FnExactRunSqueeze': WHATEVER THE INPUT: true; the input reads as it did. -/
def fnExactRunSqueezeSpec : ChangeSpec := { name := "fnExactRunSqueeze", fn := fun _ => fun
  | [d1, d2] => { results := [.lit (.bool true)], args := [d1, d2] }
  | _ => none }
def fnExactRunSqueezeRow : OpenClaim := { program := "ytfpoaaojbgmkpaa", sum := "fe3eee4e2be2e38e7cd0594567590f075d3fca4827e56f3dd54acca6427e41e3", func := "loop.example/g01170/laws.FnExactRunSqueeze", spec := "fnExactRunSqueeze", inPlace := ["math.Float32bits", "math.Float32frombits"], unfollowed := true, recurses := true, apart := false }
def FnExactRunSqueezeSaid : Prop := fnExactRunSqueezeRow.holds Try.pinned (OpenSpec.ofChange fnExactRunSqueezeSpec)

/-- ITS FALSE NEIGHBOUR: 'it returns false'. Refute it at one input. -/
def fnExactRunSqueezeWrong : ChangeSpec := { name := "fnExactRunSqueeze", fn := fun _ => fun
  | [d1, d2] => { results := [.lit (.bool false)], args := [d1, d2] }
  | _ => none }
def FnExactRunSqueezeWrongFalsely : Prop := fnExactRunSqueezeRow.holds Try.pinned (OpenSpec.ofChange fnExactRunSqueezeWrong)

/-- 'laws.FnExactDuckSamples': WHATEVER THE INPUT: true; the input reads as it did. -/
def fnExactDuckSamplesSpec : ChangeSpec := { name := "fnExactDuckSamples", fn := fun _ => fun
  | [d1, d2, d3] => { results := [.lit (.bool true)], args := [d1, d2, d3] }
  | _ => none }
def fnExactDuckSamplesRow : OpenClaim := { program := "ytfpoaaojbgmkpaa", sum := "fe3eee4e2be2e38e7cd0594567590f075d3fca4827e56f3dd54acca6427e41e3", func := "loop.example/g01170/laws.FnExactDuckSamples", spec := "fnExactDuckSamples", inPlace := ["math.Float32bits", "math.Float32frombits"], unfollowed := true, recurses := true, apart := false }
def FnExactDuckSamplesSaid : Prop := fnExactDuckSamplesRow.holds Try.pinned (OpenSpec.ofChange fnExactDuckSamplesSpec)

/-- ITS FALSE NEIGHBOUR: 'it returns false'. Refute it at one input. -/
def fnExactDuckSamplesWrong : ChangeSpec := { name := "fnExactDuckSamples", fn := fun _ => fun
  | [d1, d2, d3] => { results := [.lit (.bool false)], args := [d1, d2, d3] }
  | _ => none }
def FnExactDuckSamplesWrongFalsely : Prop := fnExactDuckSamplesRow.holds Try.pinned (OpenSpec.ofChange fnExactDuckSamplesWrong)

/-- 'laws.FnExactRunGate': WHATEVER THE INPUT: true; the input reads as it did. -/
def fnExactRunGateSpec : ChangeSpec := { name := "fnExactRunGate", fn := fun _ => fun
  | [d1, d2, d3, d4] => { results := [.lit (.bool true)], args := [d1, d2, d3, d4] }
  | _ => none }
def fnExactRunGateRow : OpenClaim := { program := "ytfpoaaojbgmkpaa", sum := "fe3eee4e2be2e38e7cd0594567590f075d3fca4827e56f3dd54acca6427e41e3", func := "loop.example/g01170/laws.FnExactRunGate", spec := "fnExactRunGate", inPlace := ["math.Float32bits", "math.Float32frombits"], unfollowed := true, recurses := true, apart := false }
def FnExactRunGateSaid : Prop := fnExactRunGateRow.holds Try.pinned (OpenSpec.ofChange fnExactRunGateSpec)

/-- ITS FALSE NEIGHBOUR: 'it returns false'. Refute it at one input. -/
def fnExactRunGateWrong : ChangeSpec := { name := "fnExactRunGate", fn := fun _ => fun
  | [d1, d2, d3, d4] => { results := [.lit (.bool false)], args := [d1, d2, d3, d4] }
  | _ => none }
def FnExactRunGateWrongFalsely : Prop := fnExactRunGateRow.holds Try.pinned (OpenSpec.ofChange fnExactRunGateWrong)

/-- 'laws.FnExactNewLimiter': WHATEVER THE INPUT: true; the input reads as it did. -/
def fnExactNewLimiterSpec : ChangeSpec := { name := "fnExactNewLimiter", fn := fun _ => fun
  | [d1, d2, d3] => { results := [.lit (.bool true)], args := [d1, d2, d3] }
  | _ => none }
def fnExactNewLimiterRow : OpenClaim := { program := "ytfpoaaojbgmkpaa", sum := "fe3eee4e2be2e38e7cd0594567590f075d3fca4827e56f3dd54acca6427e41e3", func := "loop.example/g01170/laws.FnExactNewLimiter", spec := "fnExactNewLimiter", apart := false }
def FnExactNewLimiterSaid : Prop := fnExactNewLimiterRow.holds Try.pinned (OpenSpec.ofChange fnExactNewLimiterSpec)

/-- ITS FALSE NEIGHBOUR: 'it returns false'. Refute it at one input. -/
def fnExactNewLimiterWrong : ChangeSpec := { name := "fnExactNewLimiter", fn := fun _ => fun
  | [d1, d2, d3] => { results := [.lit (.bool false)], args := [d1, d2, d3] }
  | _ => none }
def FnExactNewLimiterWrongFalsely : Prop := fnExactNewLimiterRow.holds Try.pinned (OpenSpec.ofChange fnExactNewLimiterWrong)

/-- 'laws.FnExactRunLimiter': WHATEVER THE INPUT: true; the input reads as it did. -/
def fnExactRunLimiterSpec : ChangeSpec := { name := "fnExactRunLimiter", fn := fun _ => fun
  | [d1, d2] => { results := [.lit (.bool true)], args := [d1, d2] }
  | _ => none }
def fnExactRunLimiterRow : OpenClaim := { program := "ytfpoaaojbgmkpaa", sum := "fe3eee4e2be2e38e7cd0594567590f075d3fca4827e56f3dd54acca6427e41e3", func := "loop.example/g01170/laws.FnExactRunLimiter", spec := "fnExactRunLimiter", inPlace := ["math.Float32bits", "math.Float32frombits"], apart := false }
def FnExactRunLimiterSaid : Prop := fnExactRunLimiterRow.holds Try.pinned (OpenSpec.ofChange fnExactRunLimiterSpec)

/-- ITS FALSE NEIGHBOUR: 'it returns false'. Refute it at one input. -/
def fnExactRunLimiterWrong : ChangeSpec := { name := "fnExactRunLimiter", fn := fun _ => fun
  | [d1, d2] => { results := [.lit (.bool false)], args := [d1, d2] }
  | _ => none }
def FnExactRunLimiterWrongFalsely : Prop := fnExactRunLimiterRow.holds Try.pinned (OpenSpec.ofChange fnExactRunLimiterWrong)

/-- 'laws.FnExactClipSamples': WHATEVER THE INPUT: true; the input reads as it did. -/
def fnExactClipSamplesSpec : ChangeSpec := { name := "fnExactClipSamples", fn := fun _ => fun
  | [d1, d2] => { results := [.lit (.bool true)], args := [d1, d2] }
  | _ => none }
def fnExactClipSamplesRow : OpenClaim := { program := "ytfpoaaojbgmkpaa", sum := "fe3eee4e2be2e38e7cd0594567590f075d3fca4827e56f3dd54acca6427e41e3", func := "loop.example/g01170/laws.FnExactClipSamples", spec := "fnExactClipSamples", inPlace := ["math.Float32bits", "math.Float32frombits"], unfollowed := true, recurses := true, apart := false }
def FnExactClipSamplesSaid : Prop := fnExactClipSamplesRow.holds Try.pinned (OpenSpec.ofChange fnExactClipSamplesSpec)

/-- ITS FALSE NEIGHBOUR: 'it returns false'. Refute it at one input. -/
def fnExactClipSamplesWrong : ChangeSpec := { name := "fnExactClipSamples", fn := fun _ => fun
  | [d1, d2] => { results := [.lit (.bool false)], args := [d1, d2] }
  | _ => none }
def FnExactClipSamplesWrongFalsely : Prop := fnExactClipSamplesRow.holds Try.pinned (OpenSpec.ofChange fnExactClipSamplesWrong)

/-- 'laws.FnExactBendSample': WHATEVER THE INPUT: true; the input reads as it did. -/
def fnExactBendSampleSpec : ChangeSpec := { name := "fnExactBendSample", fn := fun _ => fun
  | [d] => { results := [.lit (.bool true)], args := [d] }
  | _ => none }
def fnExactBendSampleRow : OpenClaim := { program := "ytfpoaaojbgmkpaa", sum := "fe3eee4e2be2e38e7cd0594567590f075d3fca4827e56f3dd54acca6427e41e3", func := "loop.example/g01170/laws.FnExactBendSample", spec := "fnExactBendSample", apart := false }
def FnExactBendSampleSaid : Prop := fnExactBendSampleRow.holds Try.pinned (OpenSpec.ofChange fnExactBendSampleSpec)

/-- ITS FALSE NEIGHBOUR: 'it returns false'. Refute it at one input. -/
def fnExactBendSampleWrong : ChangeSpec := { name := "fnExactBendSample", fn := fun _ => fun
  | [d] => { results := [.lit (.bool false)], args := [d] }
  | _ => none }
def FnExactBendSampleWrongFalsely : Prop := fnExactBendSampleRow.holds Try.pinned (OpenSpec.ofChange fnExactBendSampleWrong)

/-- 'laws.FnExactRootMean': WHATEVER THE INPUT: true; the input reads as it did. -/
def fnExactRootMeanSpec : ChangeSpec := { name := "fnExactRootMean", fn := fun _ => fun
  | [d] => { results := [.lit (.bool true)], args := [d] }
  | _ => none }
def fnExactRootMeanRow : OpenClaim := { program := "ytfpoaaojbgmkpaa", sum := "fe3eee4e2be2e38e7cd0594567590f075d3fca4827e56f3dd54acca6427e41e3", func := "loop.example/g01170/laws.FnExactRootMean", spec := "fnExactRootMean", inPlace := ["math.sqrt"], apart := false }
def FnExactRootMeanSaid : Prop := fnExactRootMeanRow.holds Try.pinned (OpenSpec.ofChange fnExactRootMeanSpec)

/-- ITS FALSE NEIGHBOUR: 'it returns false'. Refute it at one input. -/
def fnExactRootMeanWrong : ChangeSpec := { name := "fnExactRootMean", fn := fun _ => fun
  | [d] => { results := [.lit (.bool false)], args := [d] }
  | _ => none }
def FnExactRootMeanWrongFalsely : Prop := fnExactRootMeanRow.holds Try.pinned (OpenSpec.ofChange fnExactRootMeanWrong)

/-- 'laws.FnExactFadeSamples': WHATEVER THE INPUT: true; the input reads as it did. -/
def fnExactFadeSamplesSpec : ChangeSpec := { name := "fnExactFadeSamples", fn := fun _ => fun
  | [d1, d2, d3] => { results := [.lit (.bool true)], args := [d1, d2, d3] }
  | _ => none }
def fnExactFadeSamplesRow : OpenClaim := { program := "ytfpoaaojbgmkpaa", sum := "fe3eee4e2be2e38e7cd0594567590f075d3fca4827e56f3dd54acca6427e41e3", func := "loop.example/g01170/laws.FnExactFadeSamples", spec := "fnExactFadeSamples", unfollowed := true, recurses := true, apart := false }
def FnExactFadeSamplesSaid : Prop := fnExactFadeSamplesRow.holds Try.pinned (OpenSpec.ofChange fnExactFadeSamplesSpec)

/-- ITS FALSE NEIGHBOUR: 'it returns false'. Refute it at one input. -/
def fnExactFadeSamplesWrong : ChangeSpec := { name := "fnExactFadeSamples", fn := fun _ => fun
  | [d1, d2, d3] => { results := [.lit (.bool false)], args := [d1, d2, d3] }
  | _ => none }
def FnExactFadeSamplesWrongFalsely : Prop := fnExactFadeSamplesRow.holds Try.pinned (OpenSpec.ofChange fnExactFadeSamplesWrong)

/-- 'laws.FnExactRunChorus': WHATEVER THE INPUT: true; the input reads as it did. -/
def fnExactRunChorusSpec : ChangeSpec := { name := "fnExactRunChorus", fn := fun _ => fun
  | [d1, d2, d3, d4, d5] => { results := [.lit (.bool true)], args := [d1, d2, d3, d4, d5] }
  | _ => none }
def fnExactRunChorusRow : OpenClaim := { program := "ytfpoaaojbgmkpaa", sum := "fe3eee4e2be2e38e7cd0594567590f075d3fca4827e56f3dd54acca6427e41e3", func := "loop.example/g01170/laws.FnExactRunChorus", spec := "fnExactRunChorus", unfollowed := true, recurses := true, apart := false }
def FnExactRunChorusSaid : Prop := fnExactRunChorusRow.holds Try.pinned (OpenSpec.ofChange fnExactRunChorusSpec)

/-- ITS FALSE NEIGHBOUR: 'it returns false'. Refute it at one input. -/
def fnExactRunChorusWrong : ChangeSpec := { name := "fnExactRunChorus", fn := fun _ => fun
  | [d1, d2, d3, d4, d5] => { results := [.lit (.bool false)], args := [d1, d2, d3, d4, d5] }
  | _ => none }
def FnExactRunChorusWrongFalsely : Prop := fnExactRunChorusRow.holds Try.pinned (OpenSpec.ofChange fnExactRunChorusWrong)

/- THE SECOND FORM. 'bulk': how many values and letters a reading holds, each counted each time it is reached (what is shared counts as often as it is met; a slice's spare places count too). A statement '..UptoSaid' is the law's where the arguments, and the package variables that the reading takes, are together of bulk at most 1048576: NARROWER than '..Said'. Prove '..Said' where nothing that the law and all that it calls make is longer than what came in: it says more and counts as full. Else prove '..UptoSaid'. A law counts once. -/
mutual
def uptoBulk {H : Type} : DataW H → Nat
  | .lit (.string bytes) => bytes.length + 1
  | .lit _ => 1
  | .nil => 1
  | .ptr d => uptoBulk d + 1
  | .slice elems spare => uptoBulkAll elems + uptoBulkAll spare + 1
  | .agg parts => uptoBulkAll parts + 1
  | .iface _ d => uptoBulk d + 1
  | .map entries => uptoBulkEntries entries + 1
  | .held _ => 1
def uptoBulkAll {H : Type} : List (DataW H) → Nat
  | [] => 0
  | d :: r => uptoBulk d + uptoBulkAll r
def uptoBulkEntries {H : Type} : List (Lit × DataW H) → Nat
  | [] => 0
  | x :: r => uptoBulkEntry x + uptoBulkEntries r
def uptoBulkEntry {H : Type} : Lit × DataW H → Nat
  | (.string bytes, d) => bytes.length + uptoBulk d + 1
  | (_, d) => uptoBulk d + 1
 end
def uptoSmall : (H : Type) → List (DataW H) → Bool := fun _ ds => decide (uptoBulkAll ds ≤ 1048576)
def OpenSpec.upto (s : _root_.Go.ChangeSpec) : _root_.Go.OpenSpec := { _root_.Go.OpenSpec.ofChange s with cond := some uptoSmall }

/-- 'laws.FnExactFollowLevel', WHERE WHAT IT READS IS OF BULK AT MOST 1048576: true; the input reads as it did. -/
def fnExactFollowLevelUptoRow : OpenClaim := { program := "ytfpoaaojbgmkpaa", sum := "fe3eee4e2be2e38e7cd0594567590f075d3fca4827e56f3dd54acca6427e41e3", func := "loop.example/g01170/laws.FnExactFollowLevel", spec := "fnExactFollowLevel", inPlace := ["math.Float32bits", "math.Float32frombits"], unfollowed := true, recurses := true, apart := false, narrowed := true }
def FnExactFollowLevelUptoSaid : Prop := fnExactFollowLevelUptoRow.holds Try.pinned (OpenSpec.upto fnExactFollowLevelSpec)

/-- 'laws.FnExactGainFor', WHERE WHAT IT READS IS OF BULK AT MOST 1048576: true; the input reads as it did. -/
def fnExactGainForUptoRow : OpenClaim := { program := "ytfpoaaojbgmkpaa", sum := "fe3eee4e2be2e38e7cd0594567590f075d3fca4827e56f3dd54acca6427e41e3", func := "loop.example/g01170/laws.FnExactGainFor", spec := "fnExactGainFor", apart := false, narrowed := true }
def FnExactGainForUptoSaid : Prop := fnExactGainForUptoRow.holds Try.pinned (OpenSpec.upto fnExactGainForSpec)

/-- 'laws.FnExactRunSqueeze', WHERE WHAT IT READS IS OF BULK AT MOST 1048576: true; the input reads as it did. -/
def fnExactRunSqueezeUptoRow : OpenClaim := { program := "ytfpoaaojbgmkpaa", sum := "fe3eee4e2be2e38e7cd0594567590f075d3fca4827e56f3dd54acca6427e41e3", func := "loop.example/g01170/laws.FnExactRunSqueeze", spec := "fnExactRunSqueeze", inPlace := ["math.Float32bits", "math.Float32frombits"], unfollowed := true, recurses := true, apart := false, narrowed := true }
def FnExactRunSqueezeUptoSaid : Prop := fnExactRunSqueezeUptoRow.holds Try.pinned (OpenSpec.upto fnExactRunSqueezeSpec)

/-- 'laws.FnExactDuckSamples', WHERE WHAT IT READS IS OF BULK AT MOST 1048576: true; the input reads as it did. -/
def fnExactDuckSamplesUptoRow : OpenClaim := { program := "ytfpoaaojbgmkpaa", sum := "fe3eee4e2be2e38e7cd0594567590f075d3fca4827e56f3dd54acca6427e41e3", func := "loop.example/g01170/laws.FnExactDuckSamples", spec := "fnExactDuckSamples", inPlace := ["math.Float32bits", "math.Float32frombits"], unfollowed := true, recurses := true, apart := false, narrowed := true }
def FnExactDuckSamplesUptoSaid : Prop := fnExactDuckSamplesUptoRow.holds Try.pinned (OpenSpec.upto fnExactDuckSamplesSpec)

/-- 'laws.FnExactRunGate', WHERE WHAT IT READS IS OF BULK AT MOST 1048576: true; the input reads as it did. -/
def fnExactRunGateUptoRow : OpenClaim := { program := "ytfpoaaojbgmkpaa", sum := "fe3eee4e2be2e38e7cd0594567590f075d3fca4827e56f3dd54acca6427e41e3", func := "loop.example/g01170/laws.FnExactRunGate", spec := "fnExactRunGate", inPlace := ["math.Float32bits", "math.Float32frombits"], unfollowed := true, recurses := true, apart := false, narrowed := true }
def FnExactRunGateUptoSaid : Prop := fnExactRunGateUptoRow.holds Try.pinned (OpenSpec.upto fnExactRunGateSpec)

/-- 'laws.FnExactNewLimiter', WHERE WHAT IT READS IS OF BULK AT MOST 1048576: true; the input reads as it did. -/
def fnExactNewLimiterUptoRow : OpenClaim := { program := "ytfpoaaojbgmkpaa", sum := "fe3eee4e2be2e38e7cd0594567590f075d3fca4827e56f3dd54acca6427e41e3", func := "loop.example/g01170/laws.FnExactNewLimiter", spec := "fnExactNewLimiter", apart := false, narrowed := true }
def FnExactNewLimiterUptoSaid : Prop := fnExactNewLimiterUptoRow.holds Try.pinned (OpenSpec.upto fnExactNewLimiterSpec)

/-- 'laws.FnExactRunLimiter', WHERE WHAT IT READS IS OF BULK AT MOST 1048576: true; the input reads as it did. -/
def fnExactRunLimiterUptoRow : OpenClaim := { program := "ytfpoaaojbgmkpaa", sum := "fe3eee4e2be2e38e7cd0594567590f075d3fca4827e56f3dd54acca6427e41e3", func := "loop.example/g01170/laws.FnExactRunLimiter", spec := "fnExactRunLimiter", inPlace := ["math.Float32bits", "math.Float32frombits"], apart := false, narrowed := true }
def FnExactRunLimiterUptoSaid : Prop := fnExactRunLimiterUptoRow.holds Try.pinned (OpenSpec.upto fnExactRunLimiterSpec)

/-- 'laws.FnExactClipSamples', WHERE WHAT IT READS IS OF BULK AT MOST 1048576: true; the input reads as it did. -/
def fnExactClipSamplesUptoRow : OpenClaim := { program := "ytfpoaaojbgmkpaa", sum := "fe3eee4e2be2e38e7cd0594567590f075d3fca4827e56f3dd54acca6427e41e3", func := "loop.example/g01170/laws.FnExactClipSamples", spec := "fnExactClipSamples", inPlace := ["math.Float32bits", "math.Float32frombits"], unfollowed := true, recurses := true, apart := false, narrowed := true }
def FnExactClipSamplesUptoSaid : Prop := fnExactClipSamplesUptoRow.holds Try.pinned (OpenSpec.upto fnExactClipSamplesSpec)

/-- 'laws.FnExactBendSample', WHERE WHAT IT READS IS OF BULK AT MOST 1048576: true; the input reads as it did. -/
def fnExactBendSampleUptoRow : OpenClaim := { program := "ytfpoaaojbgmkpaa", sum := "fe3eee4e2be2e38e7cd0594567590f075d3fca4827e56f3dd54acca6427e41e3", func := "loop.example/g01170/laws.FnExactBendSample", spec := "fnExactBendSample", apart := false, narrowed := true }
def FnExactBendSampleUptoSaid : Prop := fnExactBendSampleUptoRow.holds Try.pinned (OpenSpec.upto fnExactBendSampleSpec)

/-- 'laws.FnExactRootMean', WHERE WHAT IT READS IS OF BULK AT MOST 1048576: true; the input reads as it did. -/
def fnExactRootMeanUptoRow : OpenClaim := { program := "ytfpoaaojbgmkpaa", sum := "fe3eee4e2be2e38e7cd0594567590f075d3fca4827e56f3dd54acca6427e41e3", func := "loop.example/g01170/laws.FnExactRootMean", spec := "fnExactRootMean", inPlace := ["math.sqrt"], apart := false, narrowed := true }
def FnExactRootMeanUptoSaid : Prop := fnExactRootMeanUptoRow.holds Try.pinned (OpenSpec.upto fnExactRootMeanSpec)

/-- 'laws.FnExactFadeSamples', WHERE WHAT IT READS IS OF BULK AT MOST 1048576: true; the input reads as it did. -/
def fnExactFadeSamplesUptoRow : OpenClaim := { program := "ytfpoaaojbgmkpaa", sum := "fe3eee4e2be2e38e7cd0594567590f075d3fca4827e56f3dd54acca6427e41e3", func := "loop.example/g01170/laws.FnExactFadeSamples", spec := "fnExactFadeSamples", unfollowed := true, recurses := true, apart := false, narrowed := true }
def FnExactFadeSamplesUptoSaid : Prop := fnExactFadeSamplesUptoRow.holds Try.pinned (OpenSpec.upto fnExactFadeSamplesSpec)

/-- 'laws.FnExactRunChorus', WHERE WHAT IT READS IS OF BULK AT MOST 1048576: true; the input reads as it did. -/
def fnExactRunChorusUptoRow : OpenClaim := { program := "ytfpoaaojbgmkpaa", sum := "fe3eee4e2be2e38e7cd0594567590f075d3fca4827e56f3dd54acca6427e41e3", func := "loop.example/g01170/laws.FnExactRunChorus", spec := "fnExactRunChorus", unfollowed := true, recurses := true, apart := false, narrowed := true }
def FnExactRunChorusUptoSaid : Prop := fnExactRunChorusUptoRow.holds Try.pinned (OpenSpec.upto fnExactRunChorusSpec)

end Rows
end Go.Proofs.Ytfpoaaojbgmkpaa
