/-
  No cell of these rows narrows 'for every input' (looked for: loops, veiled, ifaces, maps, wideKeys, modest, calm, conditions, laid).
  DERIVED. THE GIVEN ROWS OF THIS SEAT. 12 by the template 'for every input the law returns true; each argument reads behind the call as it read before'; 0 by the template 'total and deterministic' (their statements: YtpcbniaagckjoaaTotals.lean).
  GIVEN WITH THE SEED: the statements are not yours to turn. If you find one false, say at which input.
  Laid BY PROGRAM, IN A SANDBOX (cutbox-rows.mjs): the forced cells as the released guide's own fill.sh prints them over the translation 707cb7404ba4b04f… (all of the seat's roots in one cut). By AI agents, Wed Nov 11 2026. No macro, syntax, notation, axiom, sorry.
-/
import Derived.Test.YtpcbniaagckjoaaChecked
import GoSem.Claim
import GoSem.ClaimJoined
import GoSem.ClaimMapViews
import Derived.JoinedTies
import Derived.KernelRfl
namespace Go.Proofs.Ytpcbniaagckjoaa
/- THE CELL 'sum', in the pinned program and in every row, IS THE sha256 OF THE DUMP (.gsa) THAT YtpcbniaagckjoaaProg.lean LOADS. Nothing in Lean hashes anything: it is a label: what it is worth is what the hold of that sum in a sandbox is worth. -/
noncomputable def Try.pinned : Pinned := { name := "ytpcbniaagckjoaa", sum := "707cb7404ba4b04fe9d08c9127819f7e3c5dee600bdb44007b621648fabd6411", checked := Try.checked }
namespace Rows
def none {H : Type} : Left H := { results := [], args := [] }

/-- 'laws.FnExactAreTracks': WHATEVER THE INPUT: true; the input reads as it did. -/
def fnExactAreTracksSpec : ChangeSpec := { name := "fnExactAreTracks", fn := fun _ => fun
  | [d] => { results := [.lit (.bool true)], args := [d] }
  | _ => none }
def fnExactAreTracksRow : OpenClaim := { program := "ytpcbniaagckjoaa", sum := "707cb7404ba4b04fe9d08c9127819f7e3c5dee600bdb44007b621648fabd6411", func := "loop.example/g01170/laws.FnExactAreTracks", spec := "fnExactAreTracks", inPlace := ["math.Float64frombits", "math.Float64bits"], apart := false }
def FnExactAreTracksSaid : Prop := fnExactAreTracksRow.holds Try.pinned (OpenSpec.ofChange fnExactAreTracksSpec)

/-- ITS FALSE NEIGHBOUR: 'it returns false'. Refute it at one input. -/
def fnExactAreTracksWrong : ChangeSpec := { name := "fnExactAreTracks", fn := fun _ => fun
  | [d] => { results := [.lit (.bool false)], args := [d] }
  | _ => none }
def FnExactAreTracksWrongFalsely : Prop := fnExactAreTracksRow.holds Try.pinned (OpenSpec.ofChange fnExactAreTracksWrong)

/-- 'laws.FnExactHeardTracks': WHATEVER THE INPUT: true; the input reads as it did. -/
def fnExactHeardTracksSpec : ChangeSpec := { name := "fnExactHeardTracks", fn := fun _ => fun
  | [d] => { results := [.lit (.bool true)], args := [d] }
  | _ => none }
def fnExactHeardTracksRow : OpenClaim := { program := "ytpcbniaagckjoaa", sum := "707cb7404ba4b04fe9d08c9127819f7e3c5dee600bdb44007b621648fabd6411", func := "loop.example/g01170/laws.FnExactHeardTracks", spec := "fnExactHeardTracks", inPlace := ["math.Float64frombits", "math.Float64bits"], apart := false }
def FnExactHeardTracksSaid : Prop := fnExactHeardTracksRow.holds Try.pinned (OpenSpec.ofChange fnExactHeardTracksSpec)

/-- ITS FALSE NEIGHBOUR: 'it returns false'. Refute it at one input. -/
def fnExactHeardTracksWrong : ChangeSpec := { name := "fnExactHeardTracks", fn := fun _ => fun
  | [d] => { results := [.lit (.bool false)], args := [d] }
  | _ => none }
def FnExactHeardTracksWrongFalsely : Prop := fnExactHeardTracksRow.holds Try.pinned (OpenSpec.ofChange fnExactHeardTracksWrong)

/-- 'laws.FnExactMixTracks': WHATEVER THE INPUT: true; the input reads as it did. -/
def fnExactMixTracksSpec : ChangeSpec := { name := "fnExactMixTracks", fn := fun _ => fun
  | [d1, d2] => { results := [.lit (.bool true)], args := [d1, d2] }
  | _ => none }
def fnExactMixTracksRow : OpenClaim := { program := "ytpcbniaagckjoaa", sum := "707cb7404ba4b04fe9d08c9127819f7e3c5dee600bdb44007b621648fabd6411", func := "loop.example/g01170/laws.FnExactMixTracks", spec := "fnExactMixTracks", inPlace := ["math.Float64frombits", "math.Float64bits"], apart := false }
def FnExactMixTracksSaid : Prop := fnExactMixTracksRow.holds Try.pinned (OpenSpec.ofChange fnExactMixTracksSpec)

/-- ITS FALSE NEIGHBOUR: 'it returns false'. Refute it at one input. -/
def fnExactMixTracksWrong : ChangeSpec := { name := "fnExactMixTracks", fn := fun _ => fun
  | [d1, d2] => { results := [.lit (.bool false)], args := [d1, d2] }
  | _ => none }
def FnExactMixTracksWrongFalsely : Prop := fnExactMixTracksRow.holds Try.pinned (OpenSpec.ofChange fnExactMixTracksWrong)

/-- 'laws.FnExactMixNodes': WHATEVER THE INPUT: true; the input reads as it did. -/
def fnExactMixNodesSpec : ChangeSpec := { name := "fnExactMixNodes", fn := fun _ => fun
  | [d1, d2] => { results := [.lit (.bool true)], args := [d1, d2] }
  | _ => none }
def fnExactMixNodesRow : OpenClaim := { program := "ytpcbniaagckjoaa", sum := "707cb7404ba4b04fe9d08c9127819f7e3c5dee600bdb44007b621648fabd6411", func := "loop.example/g01170/laws.FnExactMixNodes", spec := "fnExactMixNodes", unfollowed := true, recurses := true, apart := false }
def FnExactMixNodesSaid : Prop := fnExactMixNodesRow.holds Try.pinned (OpenSpec.ofChange fnExactMixNodesSpec)

/-- ITS FALSE NEIGHBOUR: 'it returns false'. Refute it at one input. -/
def fnExactMixNodesWrong : ChangeSpec := { name := "fnExactMixNodes", fn := fun _ => fun
  | [d1, d2] => { results := [.lit (.bool false)], args := [d1, d2] }
  | _ => none }
def FnExactMixNodesWrongFalsely : Prop := fnExactMixNodesRow.holds Try.pinned (OpenSpec.ofChange fnExactMixNodesWrong)

/-- 'laws.FnExactGainBetween': WHATEVER THE INPUT: true; the input reads as it did. -/
def fnExactGainBetweenSpec : ChangeSpec := { name := "fnExactGainBetween", fn := fun _ => fun
  | [d1, d2, d3, d4] => { results := [.lit (.bool true)], args := [d1, d2, d3, d4] }
  | _ => none }
def fnExactGainBetweenRow : OpenClaim := { program := "ytpcbniaagckjoaa", sum := "707cb7404ba4b04fe9d08c9127819f7e3c5dee600bdb44007b621648fabd6411", func := "loop.example/g01170/laws.FnExactGainBetween", spec := "fnExactGainBetween", unfollowed := true, recurses := true, apart := false }
def FnExactGainBetweenSaid : Prop := fnExactGainBetweenRow.holds Try.pinned (OpenSpec.ofChange fnExactGainBetweenSpec)

/-- ITS FALSE NEIGHBOUR: 'it returns false'. Refute it at one input. -/
def fnExactGainBetweenWrong : ChangeSpec := { name := "fnExactGainBetween", fn := fun _ => fun
  | [d1, d2, d3, d4] => { results := [.lit (.bool false)], args := [d1, d2, d3, d4] }
  | _ => none }
def FnExactGainBetweenWrongFalsely : Prop := fnExactGainBetweenRow.holds Try.pinned (OpenSpec.ofChange fnExactGainBetweenWrong)

/-- 'laws.FnExactUsedNodes': WHATEVER THE INPUT: true; the input reads as it did. -/
def fnExactUsedNodesSpec : ChangeSpec := { name := "fnExactUsedNodes", fn := fun _ => fun
  | [d1, d2] => { results := [.lit (.bool true)], args := [d1, d2] }
  | _ => none }
def fnExactUsedNodesRow : OpenClaim := { program := "ytpcbniaagckjoaa", sum := "707cb7404ba4b04fe9d08c9127819f7e3c5dee600bdb44007b621648fabd6411", func := "loop.example/g01170/laws.FnExactUsedNodes", spec := "fnExactUsedNodes", unfollowed := true, recurses := true, apart := false }
def FnExactUsedNodesSaid : Prop := fnExactUsedNodesRow.holds Try.pinned (OpenSpec.ofChange fnExactUsedNodesSpec)

/-- ITS FALSE NEIGHBOUR: 'it returns false'. Refute it at one input. -/
def fnExactUsedNodesWrong : ChangeSpec := { name := "fnExactUsedNodes", fn := fun _ => fun
  | [d1, d2] => { results := [.lit (.bool false)], args := [d1, d2] }
  | _ => none }
def FnExactUsedNodesWrongFalsely : Prop := fnExactUsedNodesRow.holds Try.pinned (OpenSpec.ofChange fnExactUsedNodesWrong)

/-- 'laws.FnExactRunTaps': WHATEVER THE INPUT: true; the input reads as it did. -/
def fnExactRunTapsSpec : ChangeSpec := { name := "fnExactRunTaps", fn := fun _ => fun
  | [d1, d2, d3] => { results := [.lit (.bool true)], args := [d1, d2, d3] }
  | _ => none }
def fnExactRunTapsRow : OpenClaim := { program := "ytpcbniaagckjoaa", sum := "707cb7404ba4b04fe9d08c9127819f7e3c5dee600bdb44007b621648fabd6411", func := "loop.example/g01170/laws.FnExactRunTaps", spec := "fnExactRunTaps", unfollowed := true, recurses := true, apart := false }
def FnExactRunTapsSaid : Prop := fnExactRunTapsRow.holds Try.pinned (OpenSpec.ofChange fnExactRunTapsSpec)

/-- ITS FALSE NEIGHBOUR: 'it returns false'. Refute it at one input. -/
def fnExactRunTapsWrong : ChangeSpec := { name := "fnExactRunTaps", fn := fun _ => fun
  | [d1, d2, d3] => { results := [.lit (.bool false)], args := [d1, d2, d3] }
  | _ => none }
def FnExactRunTapsWrongFalsely : Prop := fnExactRunTapsRow.holds Try.pinned (OpenSpec.ofChange fnExactRunTapsWrong)

/-- 'laws.FnExactRunChorus': WHATEVER THE INPUT: true; the input reads as it did. -/
def fnExactRunChorusSpec : ChangeSpec := { name := "fnExactRunChorus", fn := fun _ => fun
  | [d1, d2, d3, d4, d5] => { results := [.lit (.bool true)], args := [d1, d2, d3, d4, d5] }
  | _ => none }
def fnExactRunChorusRow : OpenClaim := { program := "ytpcbniaagckjoaa", sum := "707cb7404ba4b04fe9d08c9127819f7e3c5dee600bdb44007b621648fabd6411", func := "loop.example/g01170/laws.FnExactRunChorus", spec := "fnExactRunChorus", unfollowed := true, recurses := true, apart := false }
def FnExactRunChorusSaid : Prop := fnExactRunChorusRow.holds Try.pinned (OpenSpec.ofChange fnExactRunChorusSpec)

/-- ITS FALSE NEIGHBOUR: 'it returns false'. Refute it at one input. -/
def fnExactRunChorusWrong : ChangeSpec := { name := "fnExactRunChorus", fn := fun _ => fun
  | [d1, d2, d3, d4, d5] => { results := [.lit (.bool false)], args := [d1, d2, d3, d4, d5] }
  | _ => none }
def FnExactRunChorusWrongFalsely : Prop := fnExactRunChorusRow.holds Try.pinned (OpenSpec.ofChange fnExactRunChorusWrong)

/-- 'laws.FnExactRunSqueeze': WHATEVER THE INPUT: true; the input reads as it did. -/
def fnExactRunSqueezeSpec : ChangeSpec := { name := "fnExactRunSqueeze", fn := fun _ => fun
  | [d1, d2] => { results := [.lit (.bool true)], args := [d1, d2] }
  | _ => none }
def fnExactRunSqueezeRow : OpenClaim := { program := "ytpcbniaagckjoaa", sum := "707cb7404ba4b04fe9d08c9127819f7e3c5dee600bdb44007b621648fabd6411", func := "loop.example/g01170/laws.FnExactRunSqueeze", spec := "fnExactRunSqueeze", inPlace := ["math.Float32bits", "math.Float32frombits"], unfollowed := true, recurses := true, apart := false }
def FnExactRunSqueezeSaid : Prop := fnExactRunSqueezeRow.holds Try.pinned (OpenSpec.ofChange fnExactRunSqueezeSpec)

/-- ITS FALSE NEIGHBOUR: 'it returns false'. Refute it at one input. -/
def fnExactRunSqueezeWrong : ChangeSpec := { name := "fnExactRunSqueeze", fn := fun _ => fun
  | [d1, d2] => { results := [.lit (.bool false)], args := [d1, d2] }
  | _ => none }
def FnExactRunSqueezeWrongFalsely : Prop := fnExactRunSqueezeRow.holds Try.pinned (OpenSpec.ofChange fnExactRunSqueezeWrong)

/-- 'laws.FnExactDuckSamples': WHATEVER THE INPUT: true; the input reads as it did. -/
def fnExactDuckSamplesSpec : ChangeSpec := { name := "fnExactDuckSamples", fn := fun _ => fun
  | [d1, d2, d3] => { results := [.lit (.bool true)], args := [d1, d2, d3] }
  | _ => none }
def fnExactDuckSamplesRow : OpenClaim := { program := "ytpcbniaagckjoaa", sum := "707cb7404ba4b04fe9d08c9127819f7e3c5dee600bdb44007b621648fabd6411", func := "loop.example/g01170/laws.FnExactDuckSamples", spec := "fnExactDuckSamples", inPlace := ["math.Float32bits", "math.Float32frombits"], unfollowed := true, recurses := true, apart := false }
def FnExactDuckSamplesSaid : Prop := fnExactDuckSamplesRow.holds Try.pinned (OpenSpec.ofChange fnExactDuckSamplesSpec)

/-- ITS FALSE NEIGHBOUR: 'it returns false'. Refute it at one input. -/
def fnExactDuckSamplesWrong : ChangeSpec := { name := "fnExactDuckSamples", fn := fun _ => fun
  | [d1, d2, d3] => { results := [.lit (.bool false)], args := [d1, d2, d3] }
  | _ => none }
def FnExactDuckSamplesWrongFalsely : Prop := fnExactDuckSamplesRow.holds Try.pinned (OpenSpec.ofChange fnExactDuckSamplesWrong)

/-- 'laws.FnExactRunFilter': WHATEVER THE INPUT: true; the input reads as it did. -/
def fnExactRunFilterSpec : ChangeSpec := { name := "fnExactRunFilter", fn := fun _ => fun
  | [d1, d2, d3, d4, d5] => { results := [.lit (.bool true)], args := [d1, d2, d3, d4, d5] }
  | _ => none }
def fnExactRunFilterRow : OpenClaim := { program := "ytpcbniaagckjoaa", sum := "707cb7404ba4b04fe9d08c9127819f7e3c5dee600bdb44007b621648fabd6411", func := "loop.example/g01170/laws.FnExactRunFilter", spec := "fnExactRunFilter", inPlace := ["math.Float32bits", "math.Float32frombits"], unfollowed := true, recurses := true, apart := false }
def FnExactRunFilterSaid : Prop := fnExactRunFilterRow.holds Try.pinned (OpenSpec.ofChange fnExactRunFilterSpec)

/-- ITS FALSE NEIGHBOUR: 'it returns false'. Refute it at one input. -/
def fnExactRunFilterWrong : ChangeSpec := { name := "fnExactRunFilter", fn := fun _ => fun
  | [d1, d2, d3, d4, d5] => { results := [.lit (.bool false)], args := [d1, d2, d3, d4, d5] }
  | _ => none }
def FnExactRunFilterWrongFalsely : Prop := fnExactRunFilterRow.holds Try.pinned (OpenSpec.ofChange fnExactRunFilterWrong)

/-- 'laws.FnExactPlayAt': WHATEVER THE INPUT: true; the input reads as it did. -/
def fnExactPlayAtSpec : ChangeSpec := { name := "fnExactPlayAt", fn := fun _ => fun
  | [d1, d2, d3, d4, d5] => { results := [.lit (.bool true)], args := [d1, d2, d3, d4, d5] }
  | _ => none }
def fnExactPlayAtRow : OpenClaim := { program := "ytpcbniaagckjoaa", sum := "707cb7404ba4b04fe9d08c9127819f7e3c5dee600bdb44007b621648fabd6411", func := "loop.example/g01170/laws.FnExactPlayAt", spec := "fnExactPlayAt", inPlace := ["math.Float64bits", "math.Float64frombits"], unfollowed := true, recurses := true, apart := false }
def FnExactPlayAtSaid : Prop := fnExactPlayAtRow.holds Try.pinned (OpenSpec.ofChange fnExactPlayAtSpec)

/-- ITS FALSE NEIGHBOUR: 'it returns false'. Refute it at one input. -/
def fnExactPlayAtWrong : ChangeSpec := { name := "fnExactPlayAt", fn := fun _ => fun
  | [d1, d2, d3, d4, d5] => { results := [.lit (.bool false)], args := [d1, d2, d3, d4, d5] }
  | _ => none }
def FnExactPlayAtWrongFalsely : Prop := fnExactPlayAtRow.holds Try.pinned (OpenSpec.ofChange fnExactPlayAtWrong)

/- THE SECOND FORM. 'bulk': how many values and letters a reading holds, each counted each time it is reached (what is shared counts as often as it is met; a slice's spare places count too). A statement '..UptoSaid' is the law's where the arguments, and the package variables that the reading takes, are together of bulk at most 1048576: NARROWER than '..Said'. Prove '..Said' where nothing that the law and all that it calls make is longer than what came in: it says more and counts as full. Else prove '..UptoSaid'. A law counts once. -/
mutual
def uptoBulk {H : Type} : DataW H → Nat
  | .lit (.string bytes) => bytes.length + 1
  | .lit _ => 1
  | .nil => 1
  | .ptr d => uptoBulk d + 1
  | .slice elems spare => uptoBulkAll elems + uptoBulkAll spare + 1
  | .agg parts => uptoBulkAll parts + 1
  | .iface _ d => uptoBulk d + 1
  | .map entries => uptoBulkEntries entries + 1
  | .held _ => 1
def uptoBulkAll {H : Type} : List (DataW H) → Nat
  | [] => 0
  | d :: r => uptoBulk d + uptoBulkAll r
def uptoBulkEntries {H : Type} : List (Lit × DataW H) → Nat
  | [] => 0
  | x :: r => uptoBulkEntry x + uptoBulkEntries r
def uptoBulkEntry {H : Type} : Lit × DataW H → Nat
  | (.string bytes, d) => bytes.length + uptoBulk d + 1
  | (_, d) => uptoBulk d + 1
 end
def uptoSmall : (H : Type) → List (DataW H) → Bool := fun _ ds => decide (uptoBulkAll ds ≤ 1048576)
def OpenSpec.upto (s : _root_.Go.ChangeSpec) : _root_.Go.OpenSpec := { _root_.Go.OpenSpec.ofChange s with cond := some uptoSmall }

/-- 'laws.FnExactAreTracks', WHERE WHAT IT READS IS OF BULK AT MOST 1048576: true; the input reads as it did. -/
def fnExactAreTracksUptoRow : OpenClaim := { program := "ytpcbniaagckjoaa", sum := "707cb7404ba4b04fe9d08c9127819f7e3c5dee600bdb44007b621648fabd6411", func := "loop.example/g01170/laws.FnExactAreTracks", spec := "fnExactAreTracks", inPlace := ["math.Float64frombits", "math.Float64bits"], apart := false, narrowed := true }
def FnExactAreTracksUptoSaid : Prop := fnExactAreTracksUptoRow.holds Try.pinned (OpenSpec.upto fnExactAreTracksSpec)

/-- 'laws.FnExactHeardTracks', WHERE WHAT IT READS IS OF BULK AT MOST 1048576: true; the input reads as it did. -/
def fnExactHeardTracksUptoRow : OpenClaim := { program := "ytpcbniaagckjoaa", sum := "707cb7404ba4b04fe9d08c9127819f7e3c5dee600bdb44007b621648fabd6411", func := "loop.example/g01170/laws.FnExactHeardTracks", spec := "fnExactHeardTracks", inPlace := ["math.Float64frombits", "math.Float64bits"], apart := false, narrowed := true }
def FnExactHeardTracksUptoSaid : Prop := fnExactHeardTracksUptoRow.holds Try.pinned (OpenSpec.upto fnExactHeardTracksSpec)

/-- 'laws.FnExactMixTracks', WHERE WHAT IT READS IS OF BULK AT MOST 1048576: true; the input reads as it did. -/
def fnExactMixTracksUptoRow : OpenClaim := { program := "ytpcbniaagckjoaa", sum := "707cb7404ba4b04fe9d08c9127819f7e3c5dee600bdb44007b621648fabd6411", func := "loop.example/g01170/laws.FnExactMixTracks", spec := "fnExactMixTracks", inPlace := ["math.Float64frombits", "math.Float64bits"], apart := false, narrowed := true }
def FnExactMixTracksUptoSaid : Prop := fnExactMixTracksUptoRow.holds Try.pinned (OpenSpec.upto fnExactMixTracksSpec)

/-- 'laws.FnExactMixNodes', WHERE WHAT IT READS IS OF BULK AT MOST 1048576: true; the input reads as it did. -/
def fnExactMixNodesUptoRow : OpenClaim := { program := "ytpcbniaagckjoaa", sum := "707cb7404ba4b04fe9d08c9127819f7e3c5dee600bdb44007b621648fabd6411", func := "loop.example/g01170/laws.FnExactMixNodes", spec := "fnExactMixNodes", unfollowed := true, recurses := true, apart := false, narrowed := true }
def FnExactMixNodesUptoSaid : Prop := fnExactMixNodesUptoRow.holds Try.pinned (OpenSpec.upto fnExactMixNodesSpec)

/-- 'laws.FnExactGainBetween', WHERE WHAT IT READS IS OF BULK AT MOST 1048576: true; the input reads as it did. -/
def fnExactGainBetweenUptoRow : OpenClaim := { program := "ytpcbniaagckjoaa", sum := "707cb7404ba4b04fe9d08c9127819f7e3c5dee600bdb44007b621648fabd6411", func := "loop.example/g01170/laws.FnExactGainBetween", spec := "fnExactGainBetween", unfollowed := true, recurses := true, apart := false, narrowed := true }
def FnExactGainBetweenUptoSaid : Prop := fnExactGainBetweenUptoRow.holds Try.pinned (OpenSpec.upto fnExactGainBetweenSpec)

/-- 'laws.FnExactUsedNodes', WHERE WHAT IT READS IS OF BULK AT MOST 1048576: true; the input reads as it did. -/
def fnExactUsedNodesUptoRow : OpenClaim := { program := "ytpcbniaagckjoaa", sum := "707cb7404ba4b04fe9d08c9127819f7e3c5dee600bdb44007b621648fabd6411", func := "loop.example/g01170/laws.FnExactUsedNodes", spec := "fnExactUsedNodes", unfollowed := true, recurses := true, apart := false, narrowed := true }
def FnExactUsedNodesUptoSaid : Prop := fnExactUsedNodesUptoRow.holds Try.pinned (OpenSpec.upto fnExactUsedNodesSpec)

/-- 'laws.FnExactRunTaps', WHERE WHAT IT READS IS OF BULK AT MOST 1048576: true; the input reads as it did. -/
def fnExactRunTapsUptoRow : OpenClaim := { program := "ytpcbniaagckjoaa", sum := "707cb7404ba4b04fe9d08c9127819f7e3c5dee600bdb44007b621648fabd6411", func := "loop.example/g01170/laws.FnExactRunTaps", spec := "fnExactRunTaps", unfollowed := true, recurses := true, apart := false, narrowed := true }
def FnExactRunTapsUptoSaid : Prop := fnExactRunTapsUptoRow.holds Try.pinned (OpenSpec.upto fnExactRunTapsSpec)

/-- 'laws.FnExactRunChorus', WHERE WHAT IT READS IS OF BULK AT MOST 1048576: true; the input reads as it did. -/
def fnExactRunChorusUptoRow : OpenClaim := { program := "ytpcbniaagckjoaa", sum := "707cb7404ba4b04fe9d08c9127819f7e3c5dee600bdb44007b621648fabd6411", func := "loop.example/g01170/laws.FnExactRunChorus", spec := "fnExactRunChorus", unfollowed := true, recurses := true, apart := false, narrowed := true }
def FnExactRunChorusUptoSaid : Prop := fnExactRunChorusUptoRow.holds Try.pinned (OpenSpec.upto fnExactRunChorusSpec)

/-- 'laws.FnExactRunSqueeze', WHERE WHAT IT READS IS OF BULK AT MOST 1048576: true; the input reads as it did. -/
def fnExactRunSqueezeUptoRow : OpenClaim := { program := "ytpcbniaagckjoaa", sum := "707cb7404ba4b04fe9d08c9127819f7e3c5dee600bdb44007b621648fabd6411", func := "loop.example/g01170/laws.FnExactRunSqueeze", spec := "fnExactRunSqueeze", inPlace := ["math.Float32bits", "math.Float32frombits"], unfollowed := true, recurses := true, apart := false, narrowed := true }
def FnExactRunSqueezeUptoSaid : Prop := fnExactRunSqueezeUptoRow.holds Try.pinned (OpenSpec.upto fnExactRunSqueezeSpec)

/-- 'laws.FnExactDuckSamples', WHERE WHAT IT READS IS OF BULK AT MOST 1048576: true; the input reads as it did. -/
def fnExactDuckSamplesUptoRow : OpenClaim := { program := "ytpcbniaagckjoaa", sum := "707cb7404ba4b04fe9d08c9127819f7e3c5dee600bdb44007b621648fabd6411", func := "loop.example/g01170/laws.FnExactDuckSamples", spec := "fnExactDuckSamples", inPlace := ["math.Float32bits", "math.Float32frombits"], unfollowed := true, recurses := true, apart := false, narrowed := true }
def FnExactDuckSamplesUptoSaid : Prop := fnExactDuckSamplesUptoRow.holds Try.pinned (OpenSpec.upto fnExactDuckSamplesSpec)

/-- 'laws.FnExactRunFilter', WHERE WHAT IT READS IS OF BULK AT MOST 1048576: true; the input reads as it did. -/
def fnExactRunFilterUptoRow : OpenClaim := { program := "ytpcbniaagckjoaa", sum := "707cb7404ba4b04fe9d08c9127819f7e3c5dee600bdb44007b621648fabd6411", func := "loop.example/g01170/laws.FnExactRunFilter", spec := "fnExactRunFilter", inPlace := ["math.Float32bits", "math.Float32frombits"], unfollowed := true, recurses := true, apart := false, narrowed := true }
def FnExactRunFilterUptoSaid : Prop := fnExactRunFilterUptoRow.holds Try.pinned (OpenSpec.upto fnExactRunFilterSpec)

/-- 'laws.FnExactPlayAt', WHERE WHAT IT READS IS OF BULK AT MOST 1048576: true; the input reads as it did. -/
def fnExactPlayAtUptoRow : OpenClaim := { program := "ytpcbniaagckjoaa", sum := "707cb7404ba4b04fe9d08c9127819f7e3c5dee600bdb44007b621648fabd6411", func := "loop.example/g01170/laws.FnExactPlayAt", spec := "fnExactPlayAt", inPlace := ["math.Float64bits", "math.Float64frombits"], unfollowed := true, recurses := true, apart := false, narrowed := true }
def FnExactPlayAtUptoSaid : Prop := fnExactPlayAtUptoRow.holds Try.pinned (OpenSpec.upto fnExactPlayAtSpec)

end Rows
end Go.Proofs.Ytpcbniaagckjoaa
