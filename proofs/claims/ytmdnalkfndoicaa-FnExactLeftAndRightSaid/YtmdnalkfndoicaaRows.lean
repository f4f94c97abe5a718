/-
  No cell of these rows narrows 'for every input' (looked for: loops, veiled, ifaces, maps, wideKeys, modest, calm, conditions, laid).
  DERIVED. THE GIVEN ROWS OF THIS SEAT. 12 by the template 'for every input the law returns true; each argument reads behind the call as it read before'; 0 by the template 'total and deterministic' (their statements: YtmdnalkfndoicaaTotals.lean).
  GIVEN WITH THE SEED: the statements are not yours to turn. If you find one false, say at which input.
  Laid BY PROGRAM, IN A SANDBOX (cutbox-rows.mjs): the forced cells as the released guide's own fill.sh prints them over the translation 65a397c9e41556f2… (all of the seat's roots in one cut). By AI agents, Wed Nov 11 2026. No macro, syntax, notation, axiom, sorry.
-/
import Derived.Test.YtmdnalkfndoicaaChecked
import GoSem.Claim
import GoSem.ClaimJoined
import GoSem.ClaimMapViews
import Derived.JoinedTies
import Derived.KernelRfl
namespace Go.Proofs.Ytmdnalkfndoicaa
/- THE CELL 'sum', in the pinned program and in every row, IS THE sha256 OF THE DUMP (.gsa) THAT YtmdnalkfndoicaaProg.lean LOADS. Nothing in Lean hashes anything: it is a label: what it is worth is what the hold of that sum in a sandbox is worth. -/
noncomputable def Try.pinned : Pinned := { name := "ytmdnalkfndoicaa", sum := "65a397c9e41556f2ed7e8228f24da9c147b215ea74dde082e85cd43c805c3486", checked := Try.checked }
namespace Rows
def none {H : Type} : Left H := { results := [], args := [] }

/-- 'laws.FnExactIsLane': WHATEVER THE INPUT: true; the input reads as it did. -/
def fnExactIsLaneSpec : ChangeSpec := { name := "fnExactIsLane", fn := fun _ => fun
  | [d] => { results := [.lit (.bool true)], args := [d] }
  | _ => none }
def fnExactIsLaneRow : OpenClaim := { program := "ytmdnalkfndoicaa", sum := "65a397c9e41556f2ed7e8228f24da9c147b215ea74dde082e85cd43c805c3486", func := "loop.example/g01170/laws.FnExactIsLane", spec := "fnExactIsLane", unfollowed := true, recurses := true, apart := false }
def FnExactIsLaneSaid : Prop := fnExactIsLaneRow.holds Try.pinned (OpenSpec.ofChange fnExactIsLaneSpec)

/-- ITS FALSE NEIGHBOUR: 'it returns false'. Refute it at one input. -/
def fnExactIsLaneWrong : ChangeSpec := { name := "fnExactIsLane", fn := fun _ => fun
  | [d] => { results := [.lit (.bool false)], args := [d] }
  | _ => none }
def FnExactIsLaneWrongFalsely : Prop := fnExactIsLaneRow.holds Try.pinned (OpenSpec.ofChange fnExactIsLaneWrong)

/-- 'laws.FnExactLaneAt': WHATEVER THE INPUT: true; the input reads as it did. -/
def fnExactLaneAtSpec : ChangeSpec := { name := "fnExactLaneAt", fn := fun _ => fun
  | [d1, d2] => { results := [.lit (.bool true)], args := [d1, d2] }
  | _ => none }
def fnExactLaneAtRow : OpenClaim := { program := "ytmdnalkfndoicaa", sum := "65a397c9e41556f2ed7e8228f24da9c147b215ea74dde082e85cd43c805c3486", func := "loop.example/g01170/laws.FnExactLaneAt", spec := "fnExactLaneAt", unfollowed := true, recurses := true, apart := false }
def FnExactLaneAtSaid : Prop := fnExactLaneAtRow.holds Try.pinned (OpenSpec.ofChange fnExactLaneAtSpec)

/-- ITS FALSE NEIGHBOUR: 'it returns false'. Refute it at one input. -/
def fnExactLaneAtWrong : ChangeSpec := { name := "fnExactLaneAt", fn := fun _ => fun
  | [d1, d2] => { results := [.lit (.bool false)], args := [d1, d2] }
  | _ => none }
def FnExactLaneAtWrongFalsely : Prop := fnExactLaneAtRow.holds Try.pinned (OpenSpec.ofChange fnExactLaneAtWrong)

/-- 'laws.FnExactRunLane': WHATEVER THE INPUT: true; the input reads as it did. -/
def fnExactRunLaneSpec : ChangeSpec := { name := "fnExactRunLane", fn := fun _ => fun
  | [d1, d2, d3] => { results := [.lit (.bool true)], args := [d1, d2, d3] }
  | _ => none }
def fnExactRunLaneRow : OpenClaim := { program := "ytmdnalkfndoicaa", sum := "65a397c9e41556f2ed7e8228f24da9c147b215ea74dde082e85cd43c805c3486", func := "loop.example/g01170/laws.FnExactRunLane", spec := "fnExactRunLane", unfollowed := true, recurses := true, apart := false }
def FnExactRunLaneSaid : Prop := fnExactRunLaneRow.holds Try.pinned (OpenSpec.ofChange fnExactRunLaneSpec)

/-- ITS FALSE NEIGHBOUR: 'it returns false'. Refute it at one input. -/
def fnExactRunLaneWrong : ChangeSpec := { name := "fnExactRunLane", fn := fun _ => fun
  | [d1, d2, d3] => { results := [.lit (.bool false)], args := [d1, d2, d3] }
  | _ => none }
def FnExactRunLaneWrongFalsely : Prop := fnExactRunLaneRow.holds Try.pinned (OpenSpec.ofChange fnExactRunLaneWrong)

/-- 'laws.FnExactApplyLane': WHATEVER THE INPUT: true; the input reads as it did. -/
def fnExactApplyLaneSpec : ChangeSpec := { name := "fnExactApplyLane", fn := fun _ => fun
  | [d1, d2, d3] => { results := [.lit (.bool true)], args := [d1, d2, d3] }
  | _ => none }
def fnExactApplyLaneRow : OpenClaim := { program := "ytmdnalkfndoicaa", sum := "65a397c9e41556f2ed7e8228f24da9c147b215ea74dde082e85cd43c805c3486", func := "loop.example/g01170/laws.FnExactApplyLane", spec := "fnExactApplyLane", unfollowed := true, recurses := true, apart := false }
def FnExactApplyLaneSaid : Prop := fnExactApplyLaneRow.holds Try.pinned (OpenSpec.ofChange fnExactApplyLaneSpec)

/-- ITS FALSE NEIGHBOUR: 'it returns false'. Refute it at one input. -/
def fnExactApplyLaneWrong : ChangeSpec := { name := "fnExactApplyLane", fn := fun _ => fun
  | [d1, d2, d3] => { results := [.lit (.bool false)], args := [d1, d2, d3] }
  | _ => none }
def FnExactApplyLaneWrongFalsely : Prop := fnExactApplyLaneRow.holds Try.pinned (OpenSpec.ofChange fnExactApplyLaneWrong)

/-- 'laws.FnExactPanOf': WHATEVER THE INPUT: true; the input reads as it did. -/
def fnExactPanOfSpec : ChangeSpec := { name := "fnExactPanOf", fn := fun _ => fun
  | [d] => { results := [.lit (.bool true)], args := [d] }
  | _ => none }
def fnExactPanOfRow : OpenClaim := { program := "ytmdnalkfndoicaa", sum := "65a397c9e41556f2ed7e8228f24da9c147b215ea74dde082e85cd43c805c3486", func := "loop.example/g01170/laws.FnExactPanOf", spec := "fnExactPanOf", inPlace := ["math.Float64frombits", "math.Float64bits"], apart := false }
def FnExactPanOfSaid : Prop := fnExactPanOfRow.holds Try.pinned (OpenSpec.ofChange fnExactPanOfSpec)

/-- ITS FALSE NEIGHBOUR: 'it returns false'. Refute it at one input. -/
def fnExactPanOfWrong : ChangeSpec := { name := "fnExactPanOf", fn := fun _ => fun
  | [d] => { results := [.lit (.bool false)], args := [d] }
  | _ => none }
def FnExactPanOfWrongFalsely : Prop := fnExactPanOfRow.holds Try.pinned (OpenSpec.ofChange fnExactPanOfWrong)

/-- 'laws.FnExactMiddleAndSide': WHATEVER THE INPUT: true; the input reads as it did. -/
def fnExactMiddleAndSideSpec : ChangeSpec := { name := "fnExactMiddleAndSide", fn := fun _ => fun
  | [d1, d2] => { results := [.lit (.bool true)], args := [d1, d2] }
  | _ => none }
def fnExactMiddleAndSideRow : OpenClaim := { program := "ytmdnalkfndoicaa", sum := "65a397c9e41556f2ed7e8228f24da9c147b215ea74dde082e85cd43c805c3486", func := "loop.example/g01170/laws.FnExactMiddleAndSide", spec := "fnExactMiddleAndSide", unfollowed := true, recurses := true, apart := false }
def FnExactMiddleAndSideSaid : Prop := fnExactMiddleAndSideRow.holds Try.pinned (OpenSpec.ofChange fnExactMiddleAndSideSpec)

/-- ITS FALSE NEIGHBOUR: 'it returns false'. Refute it at one input. -/
def fnExactMiddleAndSideWrong : ChangeSpec := { name := "fnExactMiddleAndSide", fn := fun _ => fun
  | [d1, d2] => { results := [.lit (.bool false)], args := [d1, d2] }
  | _ => none }
def FnExactMiddleAndSideWrongFalsely : Prop := fnExactMiddleAndSideRow.holds Try.pinned (OpenSpec.ofChange fnExactMiddleAndSideWrong)

/-- 'laws.FnExactLeftAndRight': WHATEVER THE INPUT: true; the input reads as it did. -/
def fnExactLeftAndRightSpec : ChangeSpec := { name := "fnExactLeftAndRight", fn := fun _ => fun
  | [d1, d2] => { results := [.lit (.bool true)], args := [d1, d2] }
  | _ => none }
def fnExactLeftAndRightRow : OpenClaim := { program := "ytmdnalkfndoicaa", sum := "65a397c9e41556f2ed7e8228f24da9c147b215ea74dde082e85cd43c805c3486", func := "loop.example/g01170/laws.FnExactLeftAndRight", spec := "fnExactLeftAndRight", apart := false }
def FnExactLeftAndRightSaid : Prop := fnExactLeftAndRightRow.holds Try.pinned (OpenSpec.ofChange fnExactLeftAndRightSpec)

/-- ITS FALSE NEIGHBOUR: 'it returns false'. Refute it at one input. -/
def fnExactLeftAndRightWrong : ChangeSpec := { name := "fnExactLeftAndRight", fn := fun _ => fun
  | [d1, d2] => { results := [.lit (.bool false)], args := [d1, d2] }
  | _ => none }
def FnExactLeftAndRightWrongFalsely : Prop := fnExactLeftAndRightRow.holds Try.pinned (OpenSpec.ofChange fnExactLeftAndRightWrong)

/-- 'laws.FnExactAreSends': WHATEVER THE INPUT: true; the input reads as it did. -/
def fnExactAreSendsSpec : ChangeSpec := { name := "fnExactAreSends", fn := fun _ => fun
  | [d1, d2] => { results := [.lit (.bool true)], args := [d1, d2] }
  | _ => none }
def fnExactAreSendsRow : OpenClaim := { program := "ytmdnalkfndoicaa", sum := "65a397c9e41556f2ed7e8228f24da9c147b215ea74dde082e85cd43c805c3486", func := "loop.example/g01170/laws.FnExactAreSends", spec := "fnExactAreSends", unfollowed := true, recurses := true, apart := false }
def FnExactAreSendsSaid : Prop := fnExactAreSendsRow.holds Try.pinned (OpenSpec.ofChange fnExactAreSendsSpec)

/-- ITS FALSE NEIGHBOUR: 'it returns false'. Refute it at one input. -/
def fnExactAreSendsWrong : ChangeSpec := { name := "fnExactAreSends", fn := fun _ => fun
  | [d1, d2] => { results := [.lit (.bool false)], args := [d1, d2] }
  | _ => none }
def FnExactAreSendsWrongFalsely : Prop := fnExactAreSendsRow.holds Try.pinned (OpenSpec.ofChange fnExactAreSendsWrong)

/-- 'laws.FnExactUsedNodes': WHATEVER THE INPUT: true; the input reads as it did. -/
def fnExactUsedNodesSpec : ChangeSpec := { name := "fnExactUsedNodes", fn := fun _ => fun
  | [d1, d2] => { results := [.lit (.bool true)], args := [d1, d2] }
  | _ => none }
def fnExactUsedNodesRow : OpenClaim := { program := "ytmdnalkfndoicaa", sum := "65a397c9e41556f2ed7e8228f24da9c147b215ea74dde082e85cd43c805c3486", func := "loop.example/g01170/laws.FnExactUsedNodes", spec := "fnExactUsedNodes", unfollowed := true, recurses := true, apart := false }
def FnExactUsedNodesSaid : Prop := fnExactUsedNodesRow.holds Try.pinned (OpenSpec.ofChange fnExactUsedNodesSpec)

/-- ITS FALSE NEIGHBOUR: 'it returns false'. Refute it at one input. -/
def fnExactUsedNodesWrong : ChangeSpec := { name := "fnExactUsedNodes", fn := fun _ => fun
  | [d1, d2] => { results := [.lit (.bool false)], args := [d1, d2] }
  | _ => none }
def FnExactUsedNodesWrongFalsely : Prop := fnExactUsedNodesRow.holds Try.pinned (OpenSpec.ofChange fnExactUsedNodesWrong)

/-- 'laws.FnExactGainBetween': WHATEVER THE INPUT: true; the input reads as it did. -/
def fnExactGainBetweenSpec : ChangeSpec := { name := "fnExactGainBetween", fn := fun _ => fun
  | [d1, d2, d3, d4] => { results := [.lit (.bool true)], args := [d1, d2, d3, d4] }
  | _ => none }
def fnExactGainBetweenRow : OpenClaim := { program := "ytmdnalkfndoicaa", sum := "65a397c9e41556f2ed7e8228f24da9c147b215ea74dde082e85cd43c805c3486", func := "loop.example/g01170/laws.FnExactGainBetween", spec := "fnExactGainBetween", unfollowed := true, recurses := true, apart := false }
def FnExactGainBetweenSaid : Prop := fnExactGainBetweenRow.holds Try.pinned (OpenSpec.ofChange fnExactGainBetweenSpec)

/-- ITS FALSE NEIGHBOUR: 'it returns false'. Refute it at one input. -/
def fnExactGainBetweenWrong : ChangeSpec := { name := "fnExactGainBetween", fn := fun _ => fun
  | [d1, d2, d3, d4] => { results := [.lit (.bool false)], args := [d1, d2, d3, d4] }
  | _ => none }
def FnExactGainBetweenWrongFalsely : Prop := fnExactGainBetweenRow.holds Try.pinned (OpenSpec.ofChange fnExactGainBetweenWrong)

/-- 'laws.FnExactMixSamples': WHATEVER THE INPUT: true; the input reads as it did. -/
def fnExactMixSamplesSpec : ChangeSpec := { name := "fnExactMixSamples", fn := fun _ => fun
  | [d1, d2] => { results := [.lit (.bool true)], args := [d1, d2] }
  | _ => none }
def fnExactMixSamplesRow : OpenClaim := { program := "ytmdnalkfndoicaa", sum := "65a397c9e41556f2ed7e8228f24da9c147b215ea74dde082e85cd43c805c3486", func := "loop.example/g01170/laws.FnExactMixSamples", spec := "fnExactMixSamples", apart := false }
def FnExactMixSamplesSaid : Prop := fnExactMixSamplesRow.holds Try.pinned (OpenSpec.ofChange fnExactMixSamplesSpec)

/-- ITS FALSE NEIGHBOUR: 'it returns false'. Refute it at one input. -/
def fnExactMixSamplesWrong : ChangeSpec := { name := "fnExactMixSamples", fn := fun _ => fun
  | [d1, d2] => { results := [.lit (.bool false)], args := [d1, d2] }
  | _ => none }
def FnExactMixSamplesWrongFalsely : Prop := fnExactMixSamplesRow.holds Try.pinned (OpenSpec.ofChange fnExactMixSamplesWrong)

/-- 'laws.FnExactScaleSamples': WHATEVER THE INPUT: true; the input reads as it did. -/
def fnExactScaleSamplesSpec : ChangeSpec := { name := "fnExactScaleSamples", fn := fun _ => fun
  | [d1, d2] => { results := [.lit (.bool true)], args := [d1, d2] }
  | _ => none }
def fnExactScaleSamplesRow : OpenClaim := { program := "ytmdnalkfndoicaa", sum := "65a397c9e41556f2ed7e8228f24da9c147b215ea74dde082e85cd43c805c3486", func := "loop.example/g01170/laws.FnExactScaleSamples", spec := "fnExactScaleSamples", apart := false }
def FnExactScaleSamplesSaid : Prop := fnExactScaleSamplesRow.holds Try.pinned (OpenSpec.ofChange fnExactScaleSamplesSpec)

/-- ITS FALSE NEIGHBOUR: 'it returns false'. Refute it at one input. -/
def fnExactScaleSamplesWrong : ChangeSpec := { name := "fnExactScaleSamples", fn := fun _ => fun
  | [d1, d2] => { results := [.lit (.bool false)], args := [d1, d2] }
  | _ => none }
def FnExactScaleSamplesWrongFalsely : Prop := fnExactScaleSamplesRow.holds Try.pinned (OpenSpec.ofChange fnExactScaleSamplesWrong)

/- THE SECOND FORM. 'bulk': how many values and letters a reading holds, each counted each time it is reached (what is shared counts as often as it is met; a slice's spare places count too). A statement '..UptoSaid' is the law's where the arguments, and the package variables that the reading takes, are together of bulk at most 1048576: NARROWER than '..Said'. Prove '..Said' where nothing that the law and all that it calls make is longer than what came in: it says more and counts as full. Else prove '..UptoSaid'. A law counts once. -/
mutual
def uptoBulk {H : Type} : DataW H → Nat
  | .lit (.string bytes) => bytes.length + 1
  | .lit _ => 1
  | .nil => 1
  | .ptr d => uptoBulk d + 1
  | .slice elems spare => uptoBulkAll elems + uptoBulkAll spare + 1
  | .agg parts => uptoBulkAll parts + 1
  | .iface _ d => uptoBulk d + 1
  | .map entries => uptoBulkEntries entries + 1
  | .held _ => 1
def uptoBulkAll {H : Type} : List (DataW H) → Nat
  | [] => 0
  | d :: r => uptoBulk d + uptoBulkAll r
def uptoBulkEntries {H : Type} : List (Lit × DataW H) → Nat
  | [] => 0
  | x :: r => uptoBulkEntry x + uptoBulkEntries r
def uptoBulkEntry {H : Type} : Lit × DataW H → Nat
  | (.string bytes, d) => bytes.length + uptoBulk d + 1
  | (_, d) => uptoBulk d + 1
 end
def uptoSmall : (H : Type) → List (DataW H) → Bool := fun _ ds => decide (uptoBulkAll ds ≤ 1048576)
def OpenSpec.upto (s : _root_.Go.ChangeSpec) : _root_.Go.OpenSpec := { _root_.Go.OpenSpec.ofChange s with cond := some uptoSmall }

/-- 'laws.FnExactIsLane', WHERE WHAT IT READS IS OF BULK AT MOST 1048576: true; the input reads as it did. -/
def fnExactIsLaneUptoRow : OpenClaim := { program := "ytmdnalkfndoicaa", sum := "65a397c9e41556f2ed7e8228f24da9c147b215ea74dde082e85cd43c805c3486", func := "loop.example/g01170/laws.FnExactIsLane", spec := "fnExactIsLane", unfollowed := true, recurses := true, apart := false, narrowed := true }
def FnExactIsLaneUptoSaid : Prop := fnExactIsLaneUptoRow.holds Try.pinned (OpenSpec.upto fnExactIsLaneSpec)

/-- 'laws.FnExactLaneAt', WHERE WHAT IT READS IS OF BULK AT MOST 1048576: true; the input reads as it did. -/
def fnExactLaneAtUptoRow : OpenClaim := { program := "ytmdnalkfndoicaa", sum := "65a397c9e41556f2ed7e8228f24da9c147b215ea74dde082e85cd43c805c3486", func := "loop.example/g01170/laws.FnExactLaneAt", spec := "fnExactLaneAt", unfollowed := true, recurses := true, apart := false, narrowed := true }
def FnExactLaneAtUptoSaid : Prop := fnExactLaneAtUptoRow.holds Try.pinned (OpenSpec.upto fnExactLaneAtSpec)

/-- 'laws.FnExactRunLane', WHERE WHAT IT READS IS OF BULK AT MOST 1048576: true; the input reads as it did. -/
def fnExactRunLaneUptoRow : OpenClaim := { program := "ytmdnalkfndoicaa", sum := "65a397c9e41556f2ed7e8228f24da9c147b215ea74dde082e85cd43c805c3486", func := "loop.example/g01170/laws.FnExactRunLane", spec := "fnExactRunLane", unfollowed := true, recurses := true, apart := false, narrowed := true }
def FnExactRunLaneUptoSaid : Prop := fnExactRunLaneUptoRow.holds Try.pinned (OpenSpec.upto fnExactRunLaneSpec)

/-- 'laws.FnExactApplyLane', WHERE WHAT IT READS IS OF BULK AT MOST 1048576: true; the input reads as it did. -/
def fnExactApplyLaneUptoRow : OpenClaim := { program := "ytmdnalkfndoicaa", sum := "65a397c9e41556f2ed7e8228f24da9c147b215ea74dde082e85cd43c805c3486", func := "loop.example/g01170/laws.FnExactApplyLane", spec := "fnExactApplyLane", unfollowed := true, recurses := true, apart := false, narrowed := true }
def FnExactApplyLaneUptoSaid : Prop := fnExactApplyLaneUptoRow.holds Try.pinned (OpenSpec.upto fnExactApplyLaneSpec)

/-- 'laws.FnExactPanOf', WHERE WHAT IT READS IS OF BULK AT MOST 1048576: true; the input reads as it did. -/
def fnExactPanOfUptoRow : OpenClaim := { program := "ytmdnalkfndoicaa", sum := "65a397c9e41556f2ed7e8228f24da9c147b215ea74dde082e85cd43c805c3486", func := "loop.example/g01170/laws.FnExactPanOf", spec := "fnExactPanOf", inPlace := ["math.Float64frombits", "math.Float64bits"], apart := false, narrowed := true }
def FnExactPanOfUptoSaid : Prop := fnExactPanOfUptoRow.holds Try.pinned (OpenSpec.upto fnExactPanOfSpec)

/-- 'laws.FnExactMiddleAndSide', WHERE WHAT IT READS IS OF BULK AT MOST 1048576: true; the input reads as it did. -/
def fnExactMiddleAndSideUptoRow : OpenClaim := { program := "ytmdnalkfndoicaa", sum := "65a397c9e41556f2ed7e8228f24da9c147b215ea74dde082e85cd43c805c3486", func := "loop.example/g01170/laws.FnExactMiddleAndSide", spec := "fnExactMiddleAndSide", unfollowed := true, recurses := true, apart := false, narrowed := true }
def FnExactMiddleAndSideUptoSaid : Prop := fnExactMiddleAndSideUptoRow.holds Try.pinned (OpenSpec.upto fnExactMiddleAndSideSpec)

/-- 'laws.FnExactLeftAndRight', WHERE WHAT IT READS IS OF BULK AT MOST 1048576: true; the input reads as it did. -/
def fnExactLeftAndRightUptoRow : OpenClaim := { program := "ytmdnalkfndoicaa", sum := "65a397c9e41556f2ed7e8228f24da9c147b215ea74dde082e85cd43c805c3486", func := "loop.example/g01170/laws.FnExactLeftAndRight", spec := "fnExactLeftAndRight", apart := false, narrowed := true }
def FnExactLeftAndRightUptoSaid : Prop := fnExactLeftAndRightUptoRow.holds Try.pinned (OpenSpec.upto fnExactLeftAndRightSpec)

/-- 'laws.FnExactAreSends', WHERE WHAT IT READS IS OF BULK AT MOST 1048576: true; the input reads as it did. -/
def fnExactAreSendsUptoRow : OpenClaim := { program := "ytmdnalkfndoicaa", sum := "65a397c9e41556f2ed7e8228f24da9c147b215ea74dde082e85cd43c805c3486", func := "loop.example/g01170/laws.FnExactAreSends", spec := "fnExactAreSends", unfollowed := true, recurses := true, apart := false, narrowed := true }
def FnExactAreSendsUptoSaid : Prop := fnExactAreSendsUptoRow.holds Try.pinned (OpenSpec.upto fnExactAreSendsSpec)

/-- 'laws.FnExactUsedNodes', WHERE WHAT IT READS IS OF BULK AT MOST 1048576: true; the input reads as it did. -/
def fnExactUsedNodesUptoRow : OpenClaim := { program := "ytmdnalkfndoicaa", sum := "65a397c9e41556f2ed7e8228f24da9c147b215ea74dde082e85cd43c805c3486", func := "loop.example/g01170/laws.FnExactUsedNodes", spec := "fnExactUsedNodes", unfollowed := true, recurses := true, apart := false, narrowed := true }
def FnExactUsedNodesUptoSaid : Prop := fnExactUsedNodesUptoRow.holds Try.pinned (OpenSpec.upto fnExactUsedNodesSpec)

/-- 'laws.FnExactGainBetween', WHERE WHAT IT READS IS OF BULK AT MOST 1048576: true; the input reads as it did. -/
def fnExactGainBetweenUptoRow : OpenClaim := { program := "ytmdnalkfndoicaa", sum := "65a397c9e41556f2ed7e8228f24da9c147b215ea74dde082e85cd43c805c3486", func := "loop.example/g01170/laws.FnExactGainBetween", spec := "fnExactGainBetween", unfollowed := true, recurses := true, apart := false, narrowed := true }
def FnExactGainBetweenUptoSaid : Prop := fnExactGainBetweenUptoRow.holds Try.pinned (OpenSpec.upto fnExactGainBetweenSpec)

/-- 'laws.FnExactMixSamples', WHERE WHAT IT READS IS OF BULK AT MOST 1048576: true; the input reads as it did. -/
def fnExactMixSamplesUptoRow : OpenClaim := { program := "ytmdnalkfndoicaa", sum := "65a397c9e41556f2ed7e8228f24da9c147b215ea74dde082e85cd43c805c3486", func := "loop.example/g01170/laws.FnExactMixSamples", spec := "fnExactMixSamples", apart := false, narrowed := true }
def FnExactMixSamplesUptoSaid : Prop := fnExactMixSamplesUptoRow.holds Try.pinned (OpenSpec.upto fnExactMixSamplesSpec)

/-- 'laws.FnExactScaleSamples', WHERE WHAT IT READS IS OF BULK AT MOST 1048576: true; the input reads as it did. -/
def fnExactScaleSamplesUptoRow : OpenClaim := { program := "ytmdnalkfndoicaa", sum := "65a397c9e41556f2ed7e8228f24da9c147b215ea74dde082e85cd43c805c3486", func := "loop.example/g01170/laws.FnExactScaleSamples", spec := "fnExactScaleSamples", apart := false, narrowed := true }
def FnExactScaleSamplesUptoSaid : Prop := fnExactScaleSamplesUptoRow.holds Try.pinned (OpenSpec.upto fnExactScaleSamplesSpec)

end Rows
end Go.Proofs.Ytmdnalkfndoicaa
