/-
  No cell of these rows narrows 'for every input' (looked for: loops, veiled, ifaces, maps, wideKeys, modest, calm, conditions, laid).
  DERIVED. THE GIVEN ROWS OF THIS SEAT. 12 by the template 'for every input the law returns true; each argument reads behind the call as it read before'; 0 by the template 'total and deterministic' (their statements: YtlodnikboekdpaaTotals.lean).
  GIVEN WITH THE SEED: the statements are not yours to turn. If you find one false, say at which input.
  Laid BY PROGRAM, IN A SANDBOX (cutbox-rows.mjs): the forced cells as the released guide's own fill.sh prints them over the translation d79d058cc348d40a… (all of the seat's roots in one cut). By AI agents, Wed Nov 11 2026. No macro, syntax, notation, axiom, sorry.
-/
import Derived.Test.YtlodnikboekdpaaChecked
import GoSem.Claim
import GoSem.ClaimJoined
import GoSem.ClaimMapViews
import Derived.JoinedTies
import Derived.KernelRfl
namespace Go.Proofs.Ytlodnikboekdpaa
/- THE CELL 'sum', in the pinned program and in every row, IS THE sha256 OF THE DUMP (.gsa) THAT YtlodnikboekdpaaProg.lean LOADS. Nothing in Lean hashes anything: it is a label: what it is worth is what the hold of that sum in a sandbox is worth. -/
noncomputable def Try.pinned : Pinned := { name := "ytlodnikboekdpaa", sum := "d79d058cc348d40a0e6e50d6bfc42ccc513896055707918954380ea10edc516f", checked := Try.checked }
namespace Rows
def none {H : Type} : Left H := { results := [], args := [] }

/-- 'laws.FnExactValidOscillator': WHATEVER THE INPUT: true; the input reads as it did. -/
def fnExactValidOscillatorSpec : ChangeSpec := { name := "fnExactValidOscillator", fn := fun _ => fun
  | [d] => { results := [.lit (.bool true)], args := [d] }
  | _ => none }
def fnExactValidOscillatorRow : OpenClaim := { program := "ytlodnikboekdpaa", sum := "d79d058cc348d40a0e6e50d6bfc42ccc513896055707918954380ea10edc516f", func := "loop.example/g01170/laws.FnExactValidOscillator", spec := "fnExactValidOscillator", plainKeys := false, apart := false }
def FnExactValidOscillatorSaid : Prop := fnExactValidOscillatorRow.holds Try.pinned (OpenSpec.ofChange fnExactValidOscillatorSpec)

/-- ITS FALSE NEIGHBOUR: 'it returns false'. Refute it at one input. -/
def fnExactValidOscillatorWrong : ChangeSpec := { name := "fnExactValidOscillator", fn := fun _ => fun
  | [d] => { results := [.lit (.bool false)], args := [d] }
  | _ => none }
def FnExactValidOscillatorWrongFalsely : Prop := fnExactValidOscillatorRow.holds Try.pinned (OpenSpec.ofChange fnExactValidOscillatorWrong)

/-- 'laws.FnExactWaveAt': WHATEVER THE INPUT: true; the input reads as it did. -/
def fnExactWaveAtSpec : ChangeSpec := { name := "fnExactWaveAt", fn := fun _ => fun
  | [d1, d2] => { results := [.lit (.bool true)], args := [d1, d2] }
  | _ => none }
def fnExactWaveAtRow : OpenClaim := { program := "ytlodnikboekdpaa", sum := "d79d058cc348d40a0e6e50d6bfc42ccc513896055707918954380ea10edc516f", func := "loop.example/g01170/laws.FnExactWaveAt", spec := "fnExactWaveAt", inPlace := ["math.Float64frombits", "math.Float32bits", "math.Float32frombits"], unfollowed := true, recurses := true, plainKeys := false, apart := false }
def FnExactWaveAtSaid : Prop := fnExactWaveAtRow.holds Try.pinned (OpenSpec.ofChange fnExactWaveAtSpec)

/-- ITS FALSE NEIGHBOUR: 'it returns false'. Refute it at one input. -/
def fnExactWaveAtWrong : ChangeSpec := { name := "fnExactWaveAt", fn := fun _ => fun
  | [d1, d2] => { results := [.lit (.bool false)], args := [d1, d2] }
  | _ => none }
def FnExactWaveAtWrongFalsely : Prop := fnExactWaveAtRow.holds Try.pinned (OpenSpec.ofChange fnExactWaveAtWrong)

/-- 'laws.FnExactRunOscillator': WHATEVER THE INPUT: true; the input reads as it did. -/
def fnExactRunOscillatorSpec : ChangeSpec := { name := "fnExactRunOscillator", fn := fun _ => fun
  | [d1, d2] => { results := [.lit (.bool true)], args := [d1, d2] }
  | _ => none }
def fnExactRunOscillatorRow : OpenClaim := { program := "ytlodnikboekdpaa", sum := "d79d058cc348d40a0e6e50d6bfc42ccc513896055707918954380ea10edc516f", func := "loop.example/g01170/laws.FnExactRunOscillator", spec := "fnExactRunOscillator", inPlace := ["math.Float64frombits", "math.Float32bits", "math.Float32frombits"], unfollowed := true, recurses := true, plainKeys := false, apart := false }
def FnExactRunOscillatorSaid : Prop := fnExactRunOscillatorRow.holds Try.pinned (OpenSpec.ofChange fnExactRunOscillatorSpec)

/-- ITS FALSE NEIGHBOUR: 'it returns false'. Refute it at one input. -/
def fnExactRunOscillatorWrong : ChangeSpec := { name := "fnExactRunOscillator", fn := fun _ => fun
  | [d1, d2] => { results := [.lit (.bool false)], args := [d1, d2] }
  | _ => none }
def FnExactRunOscillatorWrongFalsely : Prop := fnExactRunOscillatorRow.holds Try.pinned (OpenSpec.ofChange fnExactRunOscillatorWrong)

/-- 'laws.FnExactStepOfPitch': WHATEVER THE INPUT: true; the input reads as it did. -/
def fnExactStepOfPitchSpec : ChangeSpec := { name := "fnExactStepOfPitch", fn := fun _ => fun
  | [d] => { results := [.lit (.bool true)], args := [d] }
  | _ => none }
def fnExactStepOfPitchRow : OpenClaim := { program := "ytlodnikboekdpaa", sum := "d79d058cc348d40a0e6e50d6bfc42ccc513896055707918954380ea10edc516f", func := "loop.example/g01170/laws.FnExactStepOfPitch", spec := "fnExactStepOfPitch", inPlace := ["math.Float64frombits"], plainKeys := false, apart := false }
def FnExactStepOfPitchSaid : Prop := fnExactStepOfPitchRow.holds Try.pinned (OpenSpec.ofChange fnExactStepOfPitchSpec)

/-- ITS FALSE NEIGHBOUR: 'it returns false'. Refute it at one input. -/
def fnExactStepOfPitchWrong : ChangeSpec := { name := "fnExactStepOfPitch", fn := fun _ => fun
  | [d] => { results := [.lit (.bool false)], args := [d] }
  | _ => none }
def FnExactStepOfPitchWrongFalsely : Prop := fnExactStepOfPitchRow.holds Try.pinned (OpenSpec.ofChange fnExactStepOfPitchWrong)

/-- 'laws.FnExactValidEnvelope': WHATEVER THE INPUT: true; the input reads as it did. -/
def fnExactValidEnvelopeSpec : ChangeSpec := { name := "fnExactValidEnvelope", fn := fun _ => fun
  | [d] => { results := [.lit (.bool true)], args := [d] }
  | _ => none }
def fnExactValidEnvelopeRow : OpenClaim := { program := "ytlodnikboekdpaa", sum := "d79d058cc348d40a0e6e50d6bfc42ccc513896055707918954380ea10edc516f", func := "loop.example/g01170/laws.FnExactValidEnvelope", spec := "fnExactValidEnvelope", plainKeys := false, apart := false }
def FnExactValidEnvelopeSaid : Prop := fnExactValidEnvelopeRow.holds Try.pinned (OpenSpec.ofChange fnExactValidEnvelopeSpec)

/-- ITS FALSE NEIGHBOUR: 'it returns false'. Refute it at one input. -/
def fnExactValidEnvelopeWrong : ChangeSpec := { name := "fnExactValidEnvelope", fn := fun _ => fun
  | [d] => { results := [.lit (.bool false)], args := [d] }
  | _ => none }
def FnExactValidEnvelopeWrongFalsely : Prop := fnExactValidEnvelopeRow.holds Try.pinned (OpenSpec.ofChange fnExactValidEnvelopeWrong)

/-- 'laws.FnExactLevelAt': WHATEVER THE INPUT: true; the input reads as it did. -/
def fnExactLevelAtSpec : ChangeSpec := { name := "fnExactLevelAt", fn := fun _ => fun
  | [d1, d2, d3] => { results := [.lit (.bool true)], args := [d1, d2, d3] }
  | _ => none }
def fnExactLevelAtRow : OpenClaim := { program := "ytlodnikboekdpaa", sum := "d79d058cc348d40a0e6e50d6bfc42ccc513896055707918954380ea10edc516f", func := "loop.example/g01170/laws.FnExactLevelAt", spec := "fnExactLevelAt", plainKeys := false, apart := false }
def FnExactLevelAtSaid : Prop := fnExactLevelAtRow.holds Try.pinned (OpenSpec.ofChange fnExactLevelAtSpec)

/-- ITS FALSE NEIGHBOUR: 'it returns false'. Refute it at one input. -/
def fnExactLevelAtWrong : ChangeSpec := { name := "fnExactLevelAt", fn := fun _ => fun
  | [d1, d2, d3] => { results := [.lit (.bool false)], args := [d1, d2, d3] }
  | _ => none }
def FnExactLevelAtWrongFalsely : Prop := fnExactLevelAtRow.holds Try.pinned (OpenSpec.ofChange fnExactLevelAtWrong)

/-- 'laws.FnExactEndOfNote': WHATEVER THE INPUT: true; the input reads as it did. -/
def fnExactEndOfNoteSpec : ChangeSpec := { name := "fnExactEndOfNote", fn := fun _ => fun
  | [d1, d2] => { results := [.lit (.bool true)], args := [d1, d2] }
  | _ => none }
def fnExactEndOfNoteRow : OpenClaim := { program := "ytlodnikboekdpaa", sum := "d79d058cc348d40a0e6e50d6bfc42ccc513896055707918954380ea10edc516f", func := "loop.example/g01170/laws.FnExactEndOfNote", spec := "fnExactEndOfNote", plainKeys := false, apart := false }
def FnExactEndOfNoteSaid : Prop := fnExactEndOfNoteRow.holds Try.pinned (OpenSpec.ofChange fnExactEndOfNoteSpec)

/-- ITS FALSE NEIGHBOUR: 'it returns false'. Refute it at one input. -/
def fnExactEndOfNoteWrong : ChangeSpec := { name := "fnExactEndOfNote", fn := fun _ => fun
  | [d1, d2] => { results := [.lit (.bool false)], args := [d1, d2] }
  | _ => none }
def FnExactEndOfNoteWrongFalsely : Prop := fnExactEndOfNoteRow.holds Try.pinned (OpenSpec.ofChange fnExactEndOfNoteWrong)

/-- 'laws.FnExactAreNotes': WHATEVER THE INPUT: true; the input reads as it did. -/
def fnExactAreNotesSpec : ChangeSpec := { name := "fnExactAreNotes", fn := fun _ => fun
  | [d] => { results := [.lit (.bool true)], args := [d] }
  | _ => none }
def fnExactAreNotesRow : OpenClaim := { program := "ytlodnikboekdpaa", sum := "d79d058cc348d40a0e6e50d6bfc42ccc513896055707918954380ea10edc516f", func := "loop.example/g01170/laws.FnExactAreNotes", spec := "fnExactAreNotes", unfollowed := true, recurses := true, plainKeys := false, apart := false }
def FnExactAreNotesSaid : Prop := fnExactAreNotesRow.holds Try.pinned (OpenSpec.ofChange fnExactAreNotesSpec)

/-- ITS FALSE NEIGHBOUR: 'it returns false'. Refute it at one input. -/
def fnExactAreNotesWrong : ChangeSpec := { name := "fnExactAreNotes", fn := fun _ => fun
  | [d] => { results := [.lit (.bool false)], args := [d] }
  | _ => none }
def FnExactAreNotesWrongFalsely : Prop := fnExactAreNotesRow.holds Try.pinned (OpenSpec.ofChange fnExactAreNotesWrong)

/-- 'laws.FnExactRenderNote': WHATEVER THE INPUT: true; the input reads as it did. -/
def fnExactRenderNoteSpec : ChangeSpec := { name := "fnExactRenderNote", fn := fun _ => fun
  | [d1, d2, d3, d4] => { results := [.lit (.bool true)], args := [d1, d2, d3, d4] }
  | _ => none }
def fnExactRenderNoteRow : OpenClaim := { program := "ytlodnikboekdpaa", sum := "d79d058cc348d40a0e6e50d6bfc42ccc513896055707918954380ea10edc516f", func := "loop.example/g01170/laws.FnExactRenderNote", spec := "fnExactRenderNote", inPlace := ["math.Float64frombits", "math.Float32bits", "math.Float32frombits"], unfollowed := true, recurses := true, plainKeys := false, apart := false }
def FnExactRenderNoteSaid : Prop := fnExactRenderNoteRow.holds Try.pinned (OpenSpec.ofChange fnExactRenderNoteSpec)

/-- ITS FALSE NEIGHBOUR: 'it returns false'. Refute it at one input. -/
def fnExactRenderNoteWrong : ChangeSpec := { name := "fnExactRenderNote", fn := fun _ => fun
  | [d1, d2, d3, d4] => { results := [.lit (.bool false)], args := [d1, d2, d3, d4] }
  | _ => none }
def FnExactRenderNoteWrongFalsely : Prop := fnExactRenderNoteRow.holds Try.pinned (OpenSpec.ofChange fnExactRenderNoteWrong)

/-- 'laws.FnExactEndsOfNotes': WHATEVER THE INPUT: true; the input reads as it did. -/
def fnExactEndsOfNotesSpec : ChangeSpec := { name := "fnExactEndsOfNotes", fn := fun _ => fun
  | [d1, d2, d3] => { results := [.lit (.bool true)], args := [d1, d2, d3] }
  | _ => none }
def fnExactEndsOfNotesRow : OpenClaim := { program := "ytlodnikboekdpaa", sum := "d79d058cc348d40a0e6e50d6bfc42ccc513896055707918954380ea10edc516f", func := "loop.example/g01170/laws.FnExactEndsOfNotes", spec := "fnExactEndsOfNotes", unfollowed := true, recurses := true, plainKeys := false, apart := false }
def FnExactEndsOfNotesSaid : Prop := fnExactEndsOfNotesRow.holds Try.pinned (OpenSpec.ofChange fnExactEndsOfNotesSpec)

/-- ITS FALSE NEIGHBOUR: 'it returns false'. Refute it at one input. -/
def fnExactEndsOfNotesWrong : ChangeSpec := { name := "fnExactEndsOfNotes", fn := fun _ => fun
  | [d1, d2, d3] => { results := [.lit (.bool false)], args := [d1, d2, d3] }
  | _ => none }
def FnExactEndsOfNotesWrongFalsely : Prop := fnExactEndsOfNotesRow.holds Try.pinned (OpenSpec.ofChange fnExactEndsOfNotesWrong)

/-- 'laws.FnExactPlayRecording': WHATEVER THE INPUT: true; the input reads as it did. -/
def fnExactPlayRecordingSpec : ChangeSpec := { name := "fnExactPlayRecording", fn := fun _ => fun
  | [d1, d2, d3, d4] => { results := [.lit (.bool true)], args := [d1, d2, d3, d4] }
  | _ => none }
def fnExactPlayRecordingRow : OpenClaim := { program := "ytlodnikboekdpaa", sum := "d79d058cc348d40a0e6e50d6bfc42ccc513896055707918954380ea10edc516f", func := "loop.example/g01170/laws.FnExactPlayRecording", spec := "fnExactPlayRecording", unfollowed := true, recurses := true, plainKeys := false, apart := false }
def FnExactPlayRecordingSaid : Prop := fnExactPlayRecordingRow.holds Try.pinned (OpenSpec.ofChange fnExactPlayRecordingSpec)

/-- ITS FALSE NEIGHBOUR: 'it returns false'. Refute it at one input. -/
def fnExactPlayRecordingWrong : ChangeSpec := { name := "fnExactPlayRecording", fn := fun _ => fun
  | [d1, d2, d3, d4] => { results := [.lit (.bool false)], args := [d1, d2, d3, d4] }
  | _ => none }
def FnExactPlayRecordingWrongFalsely : Prop := fnExactPlayRecordingRow.holds Try.pinned (OpenSpec.ofChange fnExactPlayRecordingWrong)

/-- 'laws.FnExactPlayLoop': WHATEVER THE INPUT: true; the input reads as it did. -/
def fnExactPlayLoopSpec : ChangeSpec := { name := "fnExactPlayLoop", fn := fun _ => fun
  | [d1, d2, d3, d4, d5, d6] => { results := [.lit (.bool true)], args := [d1, d2, d3, d4, d5, d6] }
  | _ => none }
def fnExactPlayLoopRow : OpenClaim := { program := "ytlodnikboekdpaa", sum := "d79d058cc348d40a0e6e50d6bfc42ccc513896055707918954380ea10edc516f", func := "loop.example/g01170/laws.FnExactPlayLoop", spec := "fnExactPlayLoop", unfollowed := true, recurses := true, plainKeys := false, apart := false }
def FnExactPlayLoopSaid : Prop := fnExactPlayLoopRow.holds Try.pinned (OpenSpec.ofChange fnExactPlayLoopSpec)

/-- ITS FALSE NEIGHBOUR: 'it returns false'. Refute it at one input. -/
def fnExactPlayLoopWrong : ChangeSpec := { name := "fnExactPlayLoop", fn := fun _ => fun
  | [d1, d2, d3, d4, d5, d6] => { results := [.lit (.bool false)], args := [d1, d2, d3, d4, d5, d6] }
  | _ => none }
def FnExactPlayLoopWrongFalsely : Prop := fnExactPlayLoopRow.holds Try.pinned (OpenSpec.ofChange fnExactPlayLoopWrong)

/- THE SECOND FORM. 'bulk': how many values and letters a reading holds, each counted each time it is reached (what is shared counts as often as it is met; a slice's spare places count too). A statement '..UptoSaid' is the law's where the arguments, and the package variables that the reading takes, are together of bulk at most 1048576: NARROWER than '..Said'. Prove '..Said' where nothing that the law and all that it calls make is longer than what came in: it says more and counts as full. Else prove '..UptoSaid'. A law counts once. -/
mutual
def uptoBulk {H : Type} : DataW H → Nat
  | .lit (.string bytes) => bytes.length + 1
  | .lit _ => 1
  | .nil => 1
  | .ptr d => uptoBulk d + 1
  | .slice elems spare => uptoBulkAll elems + uptoBulkAll spare + 1
  | .agg parts => uptoBulkAll parts + 1
  | .iface _ d => uptoBulk d + 1
  | .map entries => uptoBulkEntries entries + 1
  | .held _ => 1
def uptoBulkAll {H : Type} : List (DataW H) → Nat
  | [] => 0
  | d :: r => uptoBulk d + uptoBulkAll r
def uptoBulkEntries {H : Type} : List (Lit × DataW H) → Nat
  | [] => 0
  | x :: r => uptoBulkEntry x + uptoBulkEntries r
def uptoBulkEntry {H : Type} : Lit × DataW H → Nat
  | (.string bytes, d) => bytes.length + uptoBulk d + 1
  | (_, d) => uptoBulk d + 1
 end
def uptoSmall : (H : Type) → List (DataW H) → Bool := fun _ ds => decide (uptoBulkAll ds ≤ 1048576)
def OpenSpec.upto (s : _root_.Go.ChangeSpec) : _root_.Go.OpenSpec := { _root_.Go.OpenSpec.ofChange s with cond := some uptoSmall }

/-- 'laws.FnExactValidOscillator', WHERE WHAT IT READS IS OF BULK AT MOST 1048576: true; the input reads as it did. -/
def fnExactValidOscillatorUptoRow : OpenClaim := { program := "ytlodnikboekdpaa", sum := "d79d058cc348d40a0e6e50d6bfc42ccc513896055707918954380ea10edc516f", func := "loop.example/g01170/laws.FnExactValidOscillator", spec := "fnExactValidOscillator", plainKeys := false, apart := false, narrowed := true }
def FnExactValidOscillatorUptoSaid : Prop := fnExactValidOscillatorUptoRow.holds Try.pinned (OpenSpec.upto fnExactValidOscillatorSpec)

/-- 'laws.FnExactWaveAt', WHERE WHAT IT READS IS OF BULK AT MOST 1048576: true; the input reads as it did. -/
def fnExactWaveAtUptoRow : OpenClaim := { program := "ytlodnikboekdpaa", sum := "d79d058cc348d40a0e6e50d6bfc42ccc513896055707918954380ea10edc516f", func := "loop.example/g01170/laws.FnExactWaveAt", spec := "fnExactWaveAt", inPlace := ["math.Float64frombits", "math.Float32bits", "math.Float32frombits"], unfollowed := true, recurses := true, plainKeys := false, apart := false, narrowed := true }
def FnExactWaveAtUptoSaid : Prop := fnExactWaveAtUptoRow.holds Try.pinned (OpenSpec.upto fnExactWaveAtSpec)

/-- 'laws.FnExactRunOscillator', WHERE WHAT IT READS IS OF BULK AT MOST 1048576: true; the input reads as it did. -/
def fnExactRunOscillatorUptoRow : OpenClaim := { program := "ytlodnikboekdpaa", sum := "d79d058cc348d40a0e6e50d6bfc42ccc513896055707918954380ea10edc516f", func := "loop.example/g01170/laws.FnExactRunOscillator", spec := "fnExactRunOscillator", inPlace := ["math.Float64frombits", "math.Float32bits", "math.Float32frombits"], unfollowed := true, recurses := true, plainKeys := false, apart := false, narrowed := true }
def FnExactRunOscillatorUptoSaid : Prop := fnExactRunOscillatorUptoRow.holds Try.pinned (OpenSpec.upto fnExactRunOscillatorSpec)

/-- 'laws.FnExactStepOfPitch', WHERE WHAT IT READS IS OF BULK AT MOST 1048576: true; the input reads as it did. -/
def fnExactStepOfPitchUptoRow : OpenClaim := { program := "ytlodnikboekdpaa", sum := "d79d058cc348d40a0e6e50d6bfc42ccc513896055707918954380ea10edc516f", func := "loop.example/g01170/laws.FnExactStepOfPitch", spec := "fnExactStepOfPitch", inPlace := ["math.Float64frombits"], plainKeys := false, apart := false, narrowed := true }
def FnExactStepOfPitchUptoSaid : Prop := fnExactStepOfPitchUptoRow.holds Try.pinned (OpenSpec.upto fnExactStepOfPitchSpec)

/-- 'laws.FnExactValidEnvelope', WHERE WHAT IT READS IS OF BULK AT MOST 1048576: true; the input reads as it did. -/
def fnExactValidEnvelopeUptoRow : OpenClaim := { program := "ytlodnikboekdpaa", sum := "d79d058cc348d40a0e6e50d6bfc42ccc513896055707918954380ea10edc516f", func := "loop.example/g01170/laws.FnExactValidEnvelope", spec := "fnExactValidEnvelope", plainKeys := false, apart := false, narrowed := true }
def FnExactValidEnvelopeUptoSaid : Prop := fnExactValidEnvelopeUptoRow.holds Try.pinned (OpenSpec.upto fnExactValidEnvelopeSpec)

/-- 'laws.FnExactLevelAt', WHERE WHAT IT READS IS OF BULK AT MOST 1048576: true; the input reads as it did. -/
def fnExactLevelAtUptoRow : OpenClaim := { program := "ytlodnikboekdpaa", sum := "d79d058cc348d40a0e6e50d6bfc42ccc513896055707918954380ea10edc516f", func := "loop.example/g01170/laws.FnExactLevelAt", spec := "fnExactLevelAt", plainKeys := false, apart := false, narrowed := true }
def FnExactLevelAtUptoSaid : Prop := fnExactLevelAtUptoRow.holds Try.pinned (OpenSpec.upto fnExactLevelAtSpec)

/-- 'laws.FnExactEndOfNote', WHERE WHAT IT READS IS OF BULK AT MOST 1048576: true; the input reads as it did. -/
def fnExactEndOfNoteUptoRow : OpenClaim := { program := "ytlodnikboekdpaa", sum := "d79d058cc348d40a0e6e50d6bfc42ccc513896055707918954380ea10edc516f", func := "loop.example/g01170/laws.FnExactEndOfNote", spec := "fnExactEndOfNote", plainKeys := false, apart := false, narrowed := true }
def FnExactEndOfNoteUptoSaid : Prop := fnExactEndOfNoteUptoRow.holds Try.pinned (OpenSpec.upto fnExactEndOfNoteSpec)

/-- 'laws.FnExactAreNotes', WHERE WHAT IT READS IS OF BULK AT MOST 1048576: true; the input reads as it did. -/
def fnExactAreNotesUptoRow : OpenClaim := { program := "ytlodnikboekdpaa", sum := "d79d058cc348d40a0e6e50d6bfc42ccc513896055707918954380ea10edc516f", func := "loop.example/g01170/laws.FnExactAreNotes", spec := "fnExactAreNotes", unfollowed := true, recurses := true, plainKeys := false, apart := false, narrowed := true }
def FnExactAreNotesUptoSaid : Prop := fnExactAreNotesUptoRow.holds Try.pinned (OpenSpec.upto fnExactAreNotesSpec)

/-- 'laws.FnExactRenderNote', WHERE WHAT IT READS IS OF BULK AT MOST 1048576: true; the input reads as it did. -/
def fnExactRenderNoteUptoRow : OpenClaim := { program := "ytlodnikboekdpaa", sum := "d79d058cc348d40a0e6e50d6bfc42ccc513896055707918954380ea10edc516f", func := "loop.example/g01170/laws.FnExactRenderNote", spec := "fnExactRenderNote", inPlace := ["math.Float64frombits", "math.Float32bits", "math.Float32frombits"], unfollowed := true, recurses := true, plainKeys := false, apart := false, narrowed := true }
def FnExactRenderNoteUptoSaid : Prop := fnExactRenderNoteUptoRow.holds Try.pinned (OpenSpec.upto fnExactRenderNoteSpec)

/-- 'laws.FnExactEndsOfNotes', WHERE WHAT IT READS IS OF BULK AT MOST 1048576: true; the input reads as it did. -/
def fnExactEndsOfNotesUptoRow : OpenClaim := { program := "ytlodnikboekdpaa", sum := "d79d058cc348d40a0e6e50d6bfc42ccc513896055707918954380ea10edc516f", func := "loop.example/g01170/laws.FnExactEndsOfNotes", spec := "fnExactEndsOfNotes", unfollowed := true, recurses := true, plainKeys := false, apart := false, narrowed := true }
def FnExactEndsOfNotesUptoSaid : Prop := fnExactEndsOfNotesUptoRow.holds Try.pinned (OpenSpec.upto fnExactEndsOfNotesSpec)

/-- 'laws.FnExactPlayRecording', WHERE WHAT IT READS IS OF BULK AT MOST 1048576: true; the input reads as it did. -/
def fnExactPlayRecordingUptoRow : OpenClaim := { program := "ytlodnikboekdpaa", sum := "d79d058cc348d40a0e6e50d6bfc42ccc513896055707918954380ea10edc516f", func := "loop.example/g01170/laws.FnExactPlayRecording", spec := "fnExactPlayRecording", unfollowed := true, recurses := true, plainKeys := false, apart := false, narrowed := true }
def FnExactPlayRecordingUptoSaid : Prop := fnExactPlayRecordingUptoRow.holds Try.pinned (OpenSpec.upto fnExactPlayRecordingSpec)

/-- 'laws.FnExactPlayLoop', WHERE WHAT IT READS IS OF BULK AT MOST 1048576: true; the input reads as it did. -/
def fnExactPlayLoopUptoRow : OpenClaim := { program := "ytlodnikboekdpaa", sum := "d79d058cc348d40a0e6e50d6bfc42ccc513896055707918954380ea10edc516f", func := "loop.example/g01170/laws.FnExactPlayLoop", spec := "fnExactPlayLoop", unfollowed := true, recurses := true, plainKeys := false, apart := false, narrowed := true }
def FnExactPlayLoopUptoSaid : Prop := fnExactPlayLoopUptoRow.holds Try.pinned (OpenSpec.upto fnExactPlayLoopSpec)

end Rows
end Go.Proofs.Ytlodnikboekdpaa
