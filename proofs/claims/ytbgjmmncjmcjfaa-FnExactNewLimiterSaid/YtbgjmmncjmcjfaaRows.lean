/-
  No cell of these rows narrows 'for every input' (looked for: loops, veiled, ifaces, maps, wideKeys, modest, calm, conditions, laid).
  DERIVED. THE GIVEN ROWS OF THIS SEAT. 12 by the template 'for every input the law returns true; each argument reads behind the call as it read before'; 0 by the template 'total and deterministic' (their statements: YtbgjmmncjmcjfaaTotals.lean).
  GIVEN WITH THE SEED: the statements are not yours to turn. If you find one false, say at which input.
  Laid BY PROGRAM, IN A SANDBOX (cutbox-rows.mjs): the forced cells as the released guide's own fill.sh prints them over the translation 6cc73e69529bee69… (all of the seat's roots in one cut). By AI agents, Wed Nov 11 2026. No macro, syntax, notation, axiom, sorry.
-/
import Derived.Test.YtbgjmmncjmcjfaaChecked
import GoSem.Claim
import GoSem.ClaimJoined
import GoSem.ClaimMapViews
import Derived.JoinedTies
import Derived.KernelRfl
namespace Go.Proofs.Ytbgjmmncjmcjfaa
/- THE CELL 'sum', in the pinned program and in every row, IS THE sha256 OF THE DUMP (.gsa) THAT YtbgjmmncjmcjfaaProg.lean LOADS. Nothing in Lean hashes anything: it is a label: what it is worth is what the hold of that sum in a sandbox is worth. -/
noncomputable def Try.pinned : Pinned := { name := "ytbgjmmncjmcjfaa", sum := "6cc73e69529bee69065ca589edfa1d7fbee7a4b7186aa50953ff0eeb44f108ff", checked := Try.checked }
namespace Rows
def none {H : Type} : Left H := { results := [], args := [] }

/-- 'laws.FnExactValidEffect': WHATEVER THE INPUT: true; the input reads as it did. -/
def fnExactValidEffectSpec : ChangeSpec := { name := "fnExactValidEffect", fn := fun _ => fun
  | [d] => { results := [.lit (.bool true)], args := [d] }
  | _ => none }
def fnExactValidEffectRow : OpenClaim := { program := "ytbgjmmncjmcjfaa", sum := "6cc73e69529bee69065ca589edfa1d7fbee7a4b7186aa50953ff0eeb44f108ff", func := "loop.example/g01170/laws.FnExactValidEffect", spec := "fnExactValidEffect", apart := false }
def FnExactValidEffectSaid : Prop := fnExactValidEffectRow.holds Try.pinned (OpenSpec.ofChange fnExactValidEffectSpec)

/-- ITS FALSE NEIGHBOUR: 'it returns false'. Refute it at one input. -/
def fnExactValidEffectWrong : ChangeSpec := { name := "fnExactValidEffect", fn := fun _ => fun
  | [d] => { results := [.lit (.bool false)], args := [d] }
  | _ => none }
def FnExactValidEffectWrongFalsely : Prop := fnExactValidEffectRow.holds Try.pinned (OpenSpec.ofChange fnExactValidEffectWrong)

/-- 'laws.FnExactValidChain': WHATEVER THE INPUT: true; the input reads as it did. -/
def fnExactValidChainSpec : ChangeSpec := { name := "fnExactValidChain", fn := fun _ => fun
  | [d] => { results := [.lit (.bool true)], args := [d] }
  | _ => none }
def fnExactValidChainRow : OpenClaim := { program := "ytbgjmmncjmcjfaa", sum := "6cc73e69529bee69065ca589edfa1d7fbee7a4b7186aa50953ff0eeb44f108ff", func := "loop.example/g01170/laws.FnExactValidChain", spec := "fnExactValidChain", unfollowed := true, recurses := true, apart := false }
def FnExactValidChainSaid : Prop := fnExactValidChainRow.holds Try.pinned (OpenSpec.ofChange fnExactValidChainSpec)

/-- ITS FALSE NEIGHBOUR: 'it returns false'. Refute it at one input. -/
def fnExactValidChainWrong : ChangeSpec := { name := "fnExactValidChain", fn := fun _ => fun
  | [d] => { results := [.lit (.bool false)], args := [d] }
  | _ => none }
def FnExactValidChainWrongFalsely : Prop := fnExactValidChainRow.holds Try.pinned (OpenSpec.ofChange fnExactValidChainWrong)

/-- 'laws.FnExactNewState': WHATEVER THE INPUT: true; the input reads as it did. -/
def fnExactNewStateSpec : ChangeSpec := { name := "fnExactNewState", fn := fun _ => fun
  | [d] => { results := [.lit (.bool true)], args := [d] }
  | _ => none }
def fnExactNewStateRow : OpenClaim := { program := "ytbgjmmncjmcjfaa", sum := "6cc73e69529bee69065ca589edfa1d7fbee7a4b7186aa50953ff0eeb44f108ff", func := "loop.example/g01170/laws.FnExactNewState", spec := "fnExactNewState", unfollowed := true, recurses := true, apart := false }
def FnExactNewStateSaid : Prop := fnExactNewStateRow.holds Try.pinned (OpenSpec.ofChange fnExactNewStateSpec)

/-- ITS FALSE NEIGHBOUR: 'it returns false'. Refute it at one input. -/
def fnExactNewStateWrong : ChangeSpec := { name := "fnExactNewState", fn := fun _ => fun
  | [d] => { results := [.lit (.bool false)], args := [d] }
  | _ => none }
def FnExactNewStateWrongFalsely : Prop := fnExactNewStateRow.holds Try.pinned (OpenSpec.ofChange fnExactNewStateWrong)

/-- 'laws.FnExactIsState': WHATEVER THE INPUT: true; the input reads as it did. -/
def fnExactIsStateSpec : ChangeSpec := { name := "fnExactIsState", fn := fun _ => fun
  | [d1, d2] => { results := [.lit (.bool true)], args := [d1, d2] }
  | _ => none }
def fnExactIsStateRow : OpenClaim := { program := "ytbgjmmncjmcjfaa", sum := "6cc73e69529bee69065ca589edfa1d7fbee7a4b7186aa50953ff0eeb44f108ff", func := "loop.example/g01170/laws.FnExactIsState", spec := "fnExactIsState", unfollowed := true, recurses := true, apart := false }
def FnExactIsStateSaid : Prop := fnExactIsStateRow.holds Try.pinned (OpenSpec.ofChange fnExactIsStateSpec)

/-- ITS FALSE NEIGHBOUR: 'it returns false'. Refute it at one input. -/
def fnExactIsStateWrong : ChangeSpec := { name := "fnExactIsState", fn := fun _ => fun
  | [d1, d2] => { results := [.lit (.bool false)], args := [d1, d2] }
  | _ => none }
def FnExactIsStateWrongFalsely : Prop := fnExactIsStateRow.holds Try.pinned (OpenSpec.ofChange fnExactIsStateWrong)

/-- 'laws.FnExactLatenessOf': WHATEVER THE INPUT: true; the input reads as it did. -/
def fnExactLatenessOfSpec : ChangeSpec := { name := "fnExactLatenessOf", fn := fun _ => fun
  | [d] => { results := [.lit (.bool true)], args := [d] }
  | _ => none }
def fnExactLatenessOfRow : OpenClaim := { program := "ytbgjmmncjmcjfaa", sum := "6cc73e69529bee69065ca589edfa1d7fbee7a4b7186aa50953ff0eeb44f108ff", func := "loop.example/g01170/laws.FnExactLatenessOf", spec := "fnExactLatenessOf", unfollowed := true, recurses := true, apart := false }
def FnExactLatenessOfSaid : Prop := fnExactLatenessOfRow.holds Try.pinned (OpenSpec.ofChange fnExactLatenessOfSpec)

/-- ITS FALSE NEIGHBOUR: 'it returns false'. Refute it at one input. -/
def fnExactLatenessOfWrong : ChangeSpec := { name := "fnExactLatenessOf", fn := fun _ => fun
  | [d] => { results := [.lit (.bool false)], args := [d] }
  | _ => none }
def FnExactLatenessOfWrongFalsely : Prop := fnExactLatenessOfRow.holds Try.pinned (OpenSpec.ofChange fnExactLatenessOfWrong)

/-- 'laws.FnExactWithoutEffect': WHATEVER THE INPUT: true; the input reads as it did. -/
def fnExactWithoutEffectSpec : ChangeSpec := { name := "fnExactWithoutEffect", fn := fun _ => fun
  | [d1, d2, d3] => { results := [.lit (.bool true)], args := [d1, d2, d3] }
  | _ => none }
def fnExactWithoutEffectRow : OpenClaim := { program := "ytbgjmmncjmcjfaa", sum := "6cc73e69529bee69065ca589edfa1d7fbee7a4b7186aa50953ff0eeb44f108ff", func := "loop.example/g01170/laws.FnExactWithoutEffect", spec := "fnExactWithoutEffect", unfollowed := true, recurses := true, apart := false }
def FnExactWithoutEffectSaid : Prop := fnExactWithoutEffectRow.holds Try.pinned (OpenSpec.ofChange fnExactWithoutEffectSpec)

/-- ITS FALSE NEIGHBOUR: 'it returns false'. Refute it at one input. -/
def fnExactWithoutEffectWrong : ChangeSpec := { name := "fnExactWithoutEffect", fn := fun _ => fun
  | [d1, d2, d3] => { results := [.lit (.bool false)], args := [d1, d2, d3] }
  | _ => none }
def FnExactWithoutEffectWrongFalsely : Prop := fnExactWithoutEffectRow.holds Try.pinned (OpenSpec.ofChange fnExactWithoutEffectWrong)

/-- 'laws.FnExactJoinChains': WHATEVER THE INPUT: true; the input reads as it did. -/
def fnExactJoinChainsSpec : ChangeSpec := { name := "fnExactJoinChains", fn := fun _ => fun
  | [d1, d2] => { results := [.lit (.bool true)], args := [d1, d2] }
  | _ => none }
def fnExactJoinChainsRow : OpenClaim := { program := "ytbgjmmncjmcjfaa", sum := "6cc73e69529bee69065ca589edfa1d7fbee7a4b7186aa50953ff0eeb44f108ff", func := "loop.example/g01170/laws.FnExactJoinChains", spec := "fnExactJoinChains", unfollowed := true, recurses := true, apart := false }
def FnExactJoinChainsSaid : Prop := fnExactJoinChainsRow.holds Try.pinned (OpenSpec.ofChange fnExactJoinChainsSpec)

/-- ITS FALSE NEIGHBOUR: 'it returns false'. Refute it at one input. -/
def fnExactJoinChainsWrong : ChangeSpec := { name := "fnExactJoinChains", fn := fun _ => fun
  | [d1, d2] => { results := [.lit (.bool false)], args := [d1, d2] }
  | _ => none }
def FnExactJoinChainsWrongFalsely : Prop := fnExactJoinChainsRow.holds Try.pinned (OpenSpec.ofChange fnExactJoinChainsWrong)

/-- 'laws.FnExactNewLimiter': WHATEVER THE INPUT: true; the input reads as it did. -/
def fnExactNewLimiterSpec : ChangeSpec := { name := "fnExactNewLimiter", fn := fun _ => fun
  | [d1, d2, d3] => { results := [.lit (.bool true)], args := [d1, d2, d3] }
  | _ => none }
def fnExactNewLimiterRow : OpenClaim := { program := "ytbgjmmncjmcjfaa", sum := "6cc73e69529bee69065ca589edfa1d7fbee7a4b7186aa50953ff0eeb44f108ff", func := "loop.example/g01170/laws.FnExactNewLimiter", spec := "fnExactNewLimiter", apart := false }
def FnExactNewLimiterSaid : Prop := fnExactNewLimiterRow.holds Try.pinned (OpenSpec.ofChange fnExactNewLimiterSpec)

/-- ITS FALSE NEIGHBOUR: 'it returns false'. Refute it at one input. -/
def fnExactNewLimiterWrong : ChangeSpec := { name := "fnExactNewLimiter", fn := fun _ => fun
  | [d1, d2, d3] => { results := [.lit (.bool false)], args := [d1, d2, d3] }
  | _ => none }
def FnExactNewLimiterWrongFalsely : Prop := fnExactNewLimiterRow.holds Try.pinned (OpenSpec.ofChange fnExactNewLimiterWrong)

/-- 'laws.FnExactRunSqueeze': WHATEVER THE INPUT: true; the input reads as it did. -/
def fnExactRunSqueezeSpec : ChangeSpec := { name := "fnExactRunSqueeze", fn := fun _ => fun
  | [d1, d2] => { results := [.lit (.bool true)], args := [d1, d2] }
  | _ => none }
def fnExactRunSqueezeRow : OpenClaim := { program := "ytbgjmmncjmcjfaa", sum := "6cc73e69529bee69065ca589edfa1d7fbee7a4b7186aa50953ff0eeb44f108ff", func := "loop.example/g01170/laws.FnExactRunSqueeze", spec := "fnExactRunSqueeze", inPlace := ["math.Float32bits", "math.Float32frombits"], unfollowed := true, recurses := true, apart := false }
def FnExactRunSqueezeSaid : Prop := fnExactRunSqueezeRow.holds Try.pinned (OpenSpec.ofChange fnExactRunSqueezeSpec)

/-- ITS FALSE NEIGHBOUR: 'it returns false'. Refute it at one input. -/
def fnExactRunSqueezeWrong : ChangeSpec := { name := "fnExactRunSqueeze", fn := fun _ => fun
  | [d1, d2] => { results := [.lit (.bool false)], args := [d1, d2] }
  | _ => none }
def FnExactRunSqueezeWrongFalsely : Prop := fnExactRunSqueezeRow.holds Try.pinned (OpenSpec.ofChange fnExactRunSqueezeWrong)

/-- 'laws.FnExactDuckSamples': WHATEVER THE INPUT: true; the input reads as it did. -/
def fnExactDuckSamplesSpec : ChangeSpec := { name := "fnExactDuckSamples", fn := fun _ => fun
  | [d1, d2, d3] => { results := [.lit (.bool true)], args := [d1, d2, d3] }
  | _ => none }
def fnExactDuckSamplesRow : OpenClaim := { program := "ytbgjmmncjmcjfaa", sum := "6cc73e69529bee69065ca589edfa1d7fbee7a4b7186aa50953ff0eeb44f108ff", func := "loop.example/g01170/laws.FnExactDuckSamples", spec := "fnExactDuckSamples", inPlace := ["math.Float32bits", "math.Float32frombits"], unfollowed := true, recurses := true, apart := false }
def FnExactDuckSamplesSaid : Prop := fnExactDuckSamplesRow.holds Try.pinned (OpenSpec.ofChange fnExactDuckSamplesSpec)

/-- ITS FALSE NEIGHBOUR: 'it returns false'. Refute it at one input. -/
def fnExactDuckSamplesWrong : ChangeSpec := { name := "fnExactDuckSamples", fn := fun _ => fun
  | [d1, d2, d3] => { results := [.lit (.bool false)], args := [d1, d2, d3] }
  | _ => none }
def FnExactDuckSamplesWrongFalsely : Prop := fnExactDuckSamplesRow.holds Try.pinned (OpenSpec.ofChange fnExactDuckSamplesWrong)

/-- 'laws.FnExactMixTracks': WHATEVER THE INPUT: true; the input reads as it did. -/
def fnExactMixTracksSpec : ChangeSpec := { name := "fnExactMixTracks", fn := fun _ => fun
  | [d1, d2] => { results := [.lit (.bool true)], args := [d1, d2] }
  | _ => none }
def fnExactMixTracksRow : OpenClaim := { program := "ytbgjmmncjmcjfaa", sum := "6cc73e69529bee69065ca589edfa1d7fbee7a4b7186aa50953ff0eeb44f108ff", func := "loop.example/g01170/laws.FnExactMixTracks", spec := "fnExactMixTracks", inPlace := ["math.Float64frombits", "math.Float64bits"], apart := false }
def FnExactMixTracksSaid : Prop := fnExactMixTracksRow.holds Try.pinned (OpenSpec.ofChange fnExactMixTracksSpec)

/-- ITS FALSE NEIGHBOUR: 'it returns false'. Refute it at one input. -/
def fnExactMixTracksWrong : ChangeSpec := { name := "fnExactMixTracks", fn := fun _ => fun
  | [d1, d2] => { results := [.lit (.bool false)], args := [d1, d2] }
  | _ => none }
def FnExactMixTracksWrongFalsely : Prop := fnExactMixTracksRow.holds Try.pinned (OpenSpec.ofChange fnExactMixTracksWrong)

/-- 'laws.FnExactEmptyLine': WHATEVER THE INPUT: true; the input reads as it did. -/
def fnExactEmptyLineSpec : ChangeSpec := { name := "fnExactEmptyLine", fn := fun _ => fun
  | [d] => { results := [.lit (.bool true)], args := [d] }
  | _ => none }
def fnExactEmptyLineRow : OpenClaim := { program := "ytbgjmmncjmcjfaa", sum := "6cc73e69529bee69065ca589edfa1d7fbee7a4b7186aa50953ff0eeb44f108ff", func := "loop.example/g01170/laws.FnExactEmptyLine", spec := "fnExactEmptyLine", apart := false }
def FnExactEmptyLineSaid : Prop := fnExactEmptyLineRow.holds Try.pinned (OpenSpec.ofChange fnExactEmptyLineSpec)

/-- ITS FALSE NEIGHBOUR: 'it returns false'. Refute it at one input. -/
def fnExactEmptyLineWrong : ChangeSpec := { name := "fnExactEmptyLine", fn := fun _ => fun
  | [d] => { results := [.lit (.bool false)], args := [d] }
  | _ => none }
def FnExactEmptyLineWrongFalsely : Prop := fnExactEmptyLineRow.holds Try.pinned (OpenSpec.ofChange fnExactEmptyLineWrong)

/- THE SECOND FORM. 'bulk': how many values and letters a reading holds, each counted each time it is reached (what is shared counts as often as it is met; a slice's spare places count too). A statement '..UptoSaid' is the law's where the arguments, and the package variables that the reading takes, are together of bulk at most 1048576: NARROWER than '..Said'. Prove '..Said' where nothing that the law and all that it calls make is longer than what came in: it says more and counts as full. Else prove '..UptoSaid'. A law counts once. -/
mutual
def uptoBulk {H : Type} : DataW H → Nat
  | .lit (.string bytes) => bytes.length + 1
  | .lit _ => 1
  | .nil => 1
  | .ptr d => uptoBulk d + 1
  | .slice elems spare => uptoBulkAll elems + uptoBulkAll spare + 1
  | .agg parts => uptoBulkAll parts + 1
  | .iface _ d => uptoBulk d + 1
  | .map entries => uptoBulkEntries entries + 1
  | .held _ => 1
def uptoBulkAll {H : Type} : List (DataW H) → Nat
  | [] => 0
  | d :: r => uptoBulk d + uptoBulkAll r
def uptoBulkEntries {H : Type} : List (Lit × DataW H) → Nat
  | [] => 0
  | x :: r => uptoBulkEntry x + uptoBulkEntries r
def uptoBulkEntry {H : Type} : Lit × DataW H → Nat
  | (.string bytes, d) => bytes.length + uptoBulk d + 1
  | (_, d) => uptoBulk d + 1
 end
def uptoSmall : (H : Type) → List (DataW H) → Bool := fun _ ds => decide (uptoBulkAll ds ≤ 1048576)
def OpenSpec.upto (s : _root_.Go.ChangeSpec) : _root_.Go.OpenSpec := { _root_.Go.OpenSpec.ofChange s with cond := some uptoSmall }

/-- 'laws.FnExactValidEffect', WHERE WHAT IT READS IS OF BULK AT MOST 1048576: true; the input reads as it did. -/
def fnExactValidEffectUptoRow : OpenClaim := { program := "ytbgjmmncjmcjfaa", sum := "6cc73e69529bee69065ca589edfa1d7fbee7a4b7186aa50953ff0eeb44f108ff", func := "loop.example/g01170/laws.FnExactValidEffect", spec := "fnExactValidEffect", apart := false, narrowed := true }
def FnExactValidEffectUptoSaid : Prop := fnExactValidEffectUptoRow.holds Try.pinned (OpenSpec.upto fnExactValidEffectSpec)

/-- 'laws.FnExactValidChain', WHERE WHAT IT READS IS OF BULK AT MOST 1048576: true; the input reads as it did. -/
def fnExactValidChainUptoRow : OpenClaim := { program := "ytbgjmmncjmcjfaa", sum := "6cc73e69529bee69065ca589edfa1d7fbee7a4b7186aa50953ff0eeb44f108ff", func := "loop.example/g01170/laws.FnExactValidChain", spec := "fnExactValidChain", unfollowed := true, recurses := true, apart := false, narrowed := true }
def FnExactValidChainUptoSaid : Prop := fnExactValidChainUptoRow.holds Try.pinned (OpenSpec.upto fnExactValidChainSpec)

/-- 'laws.FnExactNewState', WHERE WHAT IT READS IS OF BULK AT MOST 1048576: true; the input reads as it did. -/
def fnExactNewStateUptoRow : OpenClaim := { program := "ytbgjmmncjmcjfaa", sum := "6cc73e69529bee69065ca589edfa1d7fbee7a4b7186aa50953ff0eeb44f108ff", func := "loop.example/g01170/laws.FnExactNewState", spec := "fnExactNewState", unfollowed := true, recurses := true, apart := false, narrowed := true }
def FnExactNewStateUptoSaid : Prop := fnExactNewStateUptoRow.holds Try.pinned (OpenSpec.upto fnExactNewStateSpec)

/-- 'laws.FnExactIsState', WHERE WHAT IT READS IS OF BULK AT MOST 1048576: true; the input reads as it did. -/
def fnExactIsStateUptoRow : OpenClaim := { program := "ytbgjmmncjmcjfaa", sum := "6cc73e69529bee69065ca589edfa1d7fbee7a4b7186aa50953ff0eeb44f108ff", func := "loop.example/g01170/laws.FnExactIsState", spec := "fnExactIsState", unfollowed := true, recurses := true, apart := false, narrowed := true }
def FnExactIsStateUptoSaid : Prop := fnExactIsStateUptoRow.holds Try.pinned (OpenSpec.upto fnExactIsStateSpec)

/-- 'laws.FnExactLatenessOf', WHERE WHAT IT READS IS OF BULK AT MOST 1048576: true; the input reads as it did. -/
def fnExactLatenessOfUptoRow : OpenClaim := { program := "ytbgjmmncjmcjfaa", sum := "6cc73e69529bee69065ca589edfa1d7fbee7a4b7186aa50953ff0eeb44f108ff", func := "loop.example/g01170/laws.FnExactLatenessOf", spec := "fnExactLatenessOf", unfollowed := true, recurses := true, apart := false, narrowed := true }
def FnExactLatenessOfUptoSaid : Prop := fnExactLatenessOfUptoRow.holds Try.pinned (OpenSpec.upto fnExactLatenessOfSpec)

/-- 'laws.FnExactWithoutEffect', WHERE WHAT IT READS IS OF BULK AT MOST 1048576: true; the input reads as it did. -/
def fnExactWithoutEffectUptoRow : OpenClaim := { program := "ytbgjmmncjmcjfaa", sum := "6cc73e69529bee69065ca589edfa1d7fbee7a4b7186aa50953ff0eeb44f108ff", func := "loop.example/g01170/laws.FnExactWithoutEffect", spec := "fnExactWithoutEffect", unfollowed := true, recurses := true, apart := false, narrowed := true }
def FnExactWithoutEffectUptoSaid : Prop := fnExactWithoutEffectUptoRow.holds Try.pinned (OpenSpec.upto fnExactWithoutEffectSpec)

/-- 'laws.FnExactJoinChains', WHERE WHAT IT READS IS OF BULK AT MOST 1048576: true; the input reads as it did. -/
def fnExactJoinChainsUptoRow : OpenClaim := { program := "ytbgjmmncjmcjfaa", sum := "6cc73e69529bee69065ca589edfa1d7fbee7a4b7186aa50953ff0eeb44f108ff", func := "loop.example/g01170/laws.FnExactJoinChains", spec := "fnExactJoinChains", unfollowed := true, recurses := true, apart := false, narrowed := true }
def FnExactJoinChainsUptoSaid : Prop := fnExactJoinChainsUptoRow.holds Try.pinned (OpenSpec.upto fnExactJoinChainsSpec)

/-- 'laws.FnExactNewLimiter', WHERE WHAT IT READS IS OF BULK AT MOST 1048576: true; the input reads as it did. -/
def fnExactNewLimiterUptoRow : OpenClaim := { program := "ytbgjmmncjmcjfaa", sum := "6cc73e69529bee69065ca589edfa1d7fbee7a4b7186aa50953ff0eeb44f108ff", func := "loop.example/g01170/laws.FnExactNewLimiter", spec := "fnExactNewLimiter", apart := false, narrowed := true }
def FnExactNewLimiterUptoSaid : Prop := fnExactNewLimiterUptoRow.holds Try.pinned (OpenSpec.upto fnExactNewLimiterSpec)

/-- 'laws.FnExactRunSqueeze', WHERE WHAT IT READS IS OF BULK AT MOST 1048576: true; the input reads as it did. -/
def fnExactRunSqueezeUptoRow : OpenClaim := { program := "ytbgjmmncjmcjfaa", sum := "6cc73e69529bee69065ca589edfa1d7fbee7a4b7186aa50953ff0eeb44f108ff", func := "loop.example/g01170/laws.FnExactRunSqueeze", spec := "fnExactRunSqueeze", inPlace := ["math.Float32bits", "math.Float32frombits"], unfollowed := true, recurses := true, apart := false, narrowed := true }
def FnExactRunSqueezeUptoSaid : Prop := fnExactRunSqueezeUptoRow.holds Try.pinned (OpenSpec.upto fnExactRunSqueezeSpec)

/-- 'laws.FnExactDuckSamples', WHERE WHAT IT READS IS OF BULK AT MOST 1048576: true; the input reads as it did. -/
def fnExactDuckSamplesUptoRow : OpenClaim := { program := "ytbgjmmncjmcjfaa", sum := "6cc73e69529bee69065ca589edfa1d7fbee7a4b7186aa50953ff0eeb44f108ff", func := "loop.example/g01170/laws.FnExactDuckSamples", spec := "fnExactDuckSamples", inPlace := ["math.Float32bits", "math.Float32frombits"], unfollowed := true, recurses := true, apart := false, narrowed := true }
def FnExactDuckSamplesUptoSaid : Prop := fnExactDuckSamplesUptoRow.holds Try.pinned (OpenSpec.upto fnExactDuckSamplesSpec)

/-- 'laws.FnExactMixTracks', WHERE WHAT IT READS IS OF BULK AT MOST 1048576: true; the input reads as it did. -/
def fnExactMixTracksUptoRow : OpenClaim := { program := "ytbgjmmncjmcjfaa", sum := "6cc73e69529bee69065ca589edfa1d7fbee7a4b7186aa50953ff0eeb44f108ff", func := "loop.example/g01170/laws.FnExactMixTracks", spec := "fnExactMixTracks", inPlace := ["math.Float64frombits", "math.Float64bits"], apart := false, narrowed := true }
def FnExactMixTracksUptoSaid : Prop := fnExactMixTracksUptoRow.holds Try.pinned (OpenSpec.upto fnExactMixTracksSpec)

/-- 'laws.FnExactEmptyLine', WHERE WHAT IT READS IS OF BULK AT MOST 1048576: true; the input reads as it did. -/
def fnExactEmptyLineUptoRow : OpenClaim := { program := "ytbgjmmncjmcjfaa", sum := "6cc73e69529bee69065ca589edfa1d7fbee7a4b7186aa50953ff0eeb44f108ff", func := "loop.example/g01170/laws.FnExactEmptyLine", spec := "fnExactEmptyLine", apart := false, narrowed := true }
def FnExactEmptyLineUptoSaid : Prop := fnExactEmptyLineUptoRow.holds Try.pinned (OpenSpec.upto fnExactEmptyLineSpec)

end Rows
end Go.Proofs.Ytbgjmmncjmcjfaa
