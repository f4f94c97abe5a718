/-
  No cell of these rows narrows 'for every input' (looked for: loops, veiled, ifaces, maps, wideKeys, modest, calm, conditions, laid).
  DERIVED. THE GIVEN ROWS OF THIS SEAT. 12 by the template 'for every input the law returns true; each argument reads behind the call as it read before'; 0 by the template 'total and deterministic' (their statements: YtnhlnbnldpkmiaaTotals.lean).
  GIVEN WITH THE SEED: the statements are not yours to turn. If you find one false, say at which input.
  Laid BY PROGRAM, IN A SANDBOX (cutbox-rows.mjs): the forced cells as the released guide's own fill.sh prints them over the translation bebb721247091ea3… (all of the seat's roots in one cut). By AI agents, Wed Nov 11 2026. No macro, syntax, notation, axiom, sorry.
-/
import Derived.Test.YtnhlnbnldpkmiaaChecked
import GoSem.Claim
import GoSem.ClaimJoined
import GoSem.ClaimMapViews
import Derived.JoinedTies
import Derived.KernelRfl
namespace Go.Proofs.Ytnhlnbnldpkmiaa
/- THE CELL 'sum', in the pinned program and in every row, IS THE sha256 OF THE DUMP (.gsa) THAT YtnhlnbnldpkmiaaProg.lean LOADS. Nothing in Lean hashes anything: it is a label: what it is worth is what the hold of that sum in a sandbox is worth. -/
noncomputable def Try.pinned : Pinned := { name := "ytnhlnbnldpkmiaa", sum := "bebb721247091ea3fc843ecd40ab31d5b20df3603a396a52bbcc80b51289b1cc", checked := Try.checked }
namespace Rows
def none {H : Type} : Left H := { results := [], args := [] }

/-- 'laws.FnExactValidTaps': WHATEVER THE INPUT: true; the input reads as it did. -/
def fnExactValidTapsSpec : ChangeSpec := { name := "fnExactValidTaps", fn := fun _ => fun
  | [d] => { results := [.lit (.bool true)], args := [d] }
  | _ => none }
def fnExactValidTapsRow : OpenClaim := { program := "ytnhlnbnldpkmiaa", sum := "bebb721247091ea3fc843ecd40ab31d5b20df3603a396a52bbcc80b51289b1cc", func := "loop.example/g01170/laws.FnExactValidTaps", spec := "fnExactValidTaps", unfollowed := true, recurses := true, plainKeys := false, apart := false }
def FnExactValidTapsSaid : Prop := fnExactValidTapsRow.holds Try.pinned (OpenSpec.ofChange fnExactValidTapsSpec)

/-- ITS FALSE NEIGHBOUR: 'it returns false'. Refute it at one input. -/
def fnExactValidTapsWrong : ChangeSpec := { name := "fnExactValidTaps", fn := fun _ => fun
  | [d] => { results := [.lit (.bool false)], args := [d] }
  | _ => none }
def FnExactValidTapsWrongFalsely : Prop := fnExactValidTapsRow.holds Try.pinned (OpenSpec.ofChange fnExactValidTapsWrong)

/-- 'laws.FnExactRunTaps': WHATEVER THE INPUT: true; the input reads as it did. -/
def fnExactRunTapsSpec : ChangeSpec := { name := "fnExactRunTaps", fn := fun _ => fun
  | [d1, d2, d3] => { results := [.lit (.bool true)], args := [d1, d2, d3] }
  | _ => none }
def fnExactRunTapsRow : OpenClaim := { program := "ytnhlnbnldpkmiaa", sum := "bebb721247091ea3fc843ecd40ab31d5b20df3603a396a52bbcc80b51289b1cc", func := "loop.example/g01170/laws.FnExactRunTaps", spec := "fnExactRunTaps", unfollowed := true, recurses := true, plainKeys := false, apart := false }
def FnExactRunTapsSaid : Prop := fnExactRunTapsRow.holds Try.pinned (OpenSpec.ofChange fnExactRunTapsSpec)

/-- ITS FALSE NEIGHBOUR: 'it returns false'. Refute it at one input. -/
def fnExactRunTapsWrong : ChangeSpec := { name := "fnExactRunTaps", fn := fun _ => fun
  | [d1, d2, d3] => { results := [.lit (.bool false)], args := [d1, d2, d3] }
  | _ => none }
def FnExactRunTapsWrongFalsely : Prop := fnExactRunTapsRow.holds Try.pinned (OpenSpec.ofChange fnExactRunTapsWrong)

/-- 'laws.FnExactRunChorus': WHATEVER THE INPUT: true; the input reads as it did. -/
def fnExactRunChorusSpec : ChangeSpec := { name := "fnExactRunChorus", fn := fun _ => fun
  | [d1, d2, d3, d4, d5] => { results := [.lit (.bool true)], args := [d1, d2, d3, d4, d5] }
  | _ => none }
def fnExactRunChorusRow : OpenClaim := { program := "ytnhlnbnldpkmiaa", sum := "bebb721247091ea3fc843ecd40ab31d5b20df3603a396a52bbcc80b51289b1cc", func := "loop.example/g01170/laws.FnExactRunChorus", spec := "fnExactRunChorus", unfollowed := true, recurses := true, plainKeys := false, apart := false }
def FnExactRunChorusSaid : Prop := fnExactRunChorusRow.holds Try.pinned (OpenSpec.ofChange fnExactRunChorusSpec)

/-- ITS FALSE NEIGHBOUR: 'it returns false'. Refute it at one input. -/
def fnExactRunChorusWrong : ChangeSpec := { name := "fnExactRunChorus", fn := fun _ => fun
  | [d1, d2, d3, d4, d5] => { results := [.lit (.bool false)], args := [d1, d2, d3, d4, d5] }
  | _ => none }
def FnExactRunChorusWrongFalsely : Prop := fnExactRunChorusRow.holds Try.pinned (OpenSpec.ofChange fnExactRunChorusWrong)

/-- 'laws.FnExactAreNotes': WHATEVER THE INPUT: true; the input reads as it did. -/
def fnExactAreNotesSpec : ChangeSpec := { name := "fnExactAreNotes", fn := fun _ => fun
  | [d] => { results := [.lit (.bool true)], args := [d] }
  | _ => none }
def fnExactAreNotesRow : OpenClaim := { program := "ytnhlnbnldpkmiaa", sum := "bebb721247091ea3fc843ecd40ab31d5b20df3603a396a52bbcc80b51289b1cc", func := "loop.example/g01170/laws.FnExactAreNotes", spec := "fnExactAreNotes", unfollowed := true, recurses := true, plainKeys := false, apart := false }
def FnExactAreNotesSaid : Prop := fnExactAreNotesRow.holds Try.pinned (OpenSpec.ofChange fnExactAreNotesSpec)

/-- ITS FALSE NEIGHBOUR: 'it returns false'. Refute it at one input. -/
def fnExactAreNotesWrong : ChangeSpec := { name := "fnExactAreNotes", fn := fun _ => fun
  | [d] => { results := [.lit (.bool false)], args := [d] }
  | _ => none }
def FnExactAreNotesWrongFalsely : Prop := fnExactAreNotesRow.holds Try.pinned (OpenSpec.ofChange fnExactAreNotesWrong)

/-- 'laws.FnExactRenderNote': WHATEVER THE INPUT: true; the input reads as it did. -/
def fnExactRenderNoteSpec : ChangeSpec := { name := "fnExactRenderNote", fn := fun _ => fun
  | [d1, d2, d3, d4] => { results := [.lit (.bool true)], args := [d1, d2, d3, d4] }
  | _ => none }
def fnExactRenderNoteRow : OpenClaim := { program := "ytnhlnbnldpkmiaa", sum := "bebb721247091ea3fc843ecd40ab31d5b20df3603a396a52bbcc80b51289b1cc", func := "loop.example/g01170/laws.FnExactRenderNote", spec := "fnExactRenderNote", inPlace := ["math.Float64frombits", "math.Float32bits", "math.Float32frombits"], unfollowed := true, recurses := true, plainKeys := false, apart := false }
def FnExactRenderNoteSaid : Prop := fnExactRenderNoteRow.holds Try.pinned (OpenSpec.ofChange fnExactRenderNoteSpec)

/-- ITS FALSE NEIGHBOUR: 'it returns false'. Refute it at one input. -/
def fnExactRenderNoteWrong : ChangeSpec := { name := "fnExactRenderNote", fn := fun _ => fun
  | [d1, d2, d3, d4] => { results := [.lit (.bool false)], args := [d1, d2, d3, d4] }
  | _ => none }
def FnExactRenderNoteWrongFalsely : Prop := fnExactRenderNoteRow.holds Try.pinned (OpenSpec.ofChange fnExactRenderNoteWrong)

/-- 'laws.FnExactRunOscillator': WHATEVER THE INPUT: true; the input reads as it did. -/
def fnExactRunOscillatorSpec : ChangeSpec := { name := "fnExactRunOscillator", fn := fun _ => fun
  | [d1, d2] => { results := [.lit (.bool true)], args := [d1, d2] }
  | _ => none }
def fnExactRunOscillatorRow : OpenClaim := { program := "ytnhlnbnldpkmiaa", sum := "bebb721247091ea3fc843ecd40ab31d5b20df3603a396a52bbcc80b51289b1cc", func := "loop.example/g01170/laws.FnExactRunOscillator", spec := "fnExactRunOscillator", inPlace := ["math.Float64frombits", "math.Float32bits", "math.Float32frombits"], unfollowed := true, recurses := true, plainKeys := false, apart := false }
def FnExactRunOscillatorSaid : Prop := fnExactRunOscillatorRow.holds Try.pinned (OpenSpec.ofChange fnExactRunOscillatorSpec)

/-- ITS FALSE NEIGHBOUR: 'it returns false'. Refute it at one input. -/
def fnExactRunOscillatorWrong : ChangeSpec := { name := "fnExactRunOscillator", fn := fun _ => fun
  | [d1, d2] => { results := [.lit (.bool false)], args := [d1, d2] }
  | _ => none }
def FnExactRunOscillatorWrongFalsely : Prop := fnExactRunOscillatorRow.holds Try.pinned (OpenSpec.ofChange fnExactRunOscillatorWrong)

/-- 'laws.FnExactRunSqueeze': WHATEVER THE INPUT: true; the input reads as it did. -/
def fnExactRunSqueezeSpec : ChangeSpec := { name := "fnExactRunSqueeze", fn := fun _ => fun
  | [d1, d2] => { results := [.lit (.bool true)], args := [d1, d2] }
  | _ => none }
def fnExactRunSqueezeRow : OpenClaim := { program := "ytnhlnbnldpkmiaa", sum := "bebb721247091ea3fc843ecd40ab31d5b20df3603a396a52bbcc80b51289b1cc", func := "loop.example/g01170/laws.FnExactRunSqueeze", spec := "fnExactRunSqueeze", inPlace := ["math.Float32bits", "math.Float32frombits"], unfollowed := true, recurses := true, plainKeys := false, apart := false }
def FnExactRunSqueezeSaid : Prop := fnExactRunSqueezeRow.holds Try.pinned (OpenSpec.ofChange fnExactRunSqueezeSpec)

/-- ITS FALSE NEIGHBOUR: 'it returns false'. Refute it at one input. -/
def fnExactRunSqueezeWrong : ChangeSpec := { name := "fnExactRunSqueeze", fn := fun _ => fun
  | [d1, d2] => { results := [.lit (.bool false)], args := [d1, d2] }
  | _ => none }
def FnExactRunSqueezeWrongFalsely : Prop := fnExactRunSqueezeRow.holds Try.pinned (OpenSpec.ofChange fnExactRunSqueezeWrong)

/-- 'laws.FnExactDuckSamples': WHATEVER THE INPUT: true; the input reads as it did. -/
def fnExactDuckSamplesSpec : ChangeSpec := { name := "fnExactDuckSamples", fn := fun _ => fun
  | [d1, d2, d3] => { results := [.lit (.bool true)], args := [d1, d2, d3] }
  | _ => none }
def fnExactDuckSamplesRow : OpenClaim := { program := "ytnhlnbnldpkmiaa", sum := "bebb721247091ea3fc843ecd40ab31d5b20df3603a396a52bbcc80b51289b1cc", func := "loop.example/g01170/laws.FnExactDuckSamples", spec := "fnExactDuckSamples", inPlace := ["math.Float32bits", "math.Float32frombits"], unfollowed := true, recurses := true, plainKeys := false, apart := false }
def FnExactDuckSamplesSaid : Prop := fnExactDuckSamplesRow.holds Try.pinned (OpenSpec.ofChange fnExactDuckSamplesSpec)

/-- ITS FALSE NEIGHBOUR: 'it returns false'. Refute it at one input. -/
def fnExactDuckSamplesWrong : ChangeSpec := { name := "fnExactDuckSamples", fn := fun _ => fun
  | [d1, d2, d3] => { results := [.lit (.bool false)], args := [d1, d2, d3] }
  | _ => none }
def FnExactDuckSamplesWrongFalsely : Prop := fnExactDuckSamplesRow.holds Try.pinned (OpenSpec.ofChange fnExactDuckSamplesWrong)

/-- 'laws.FnExactSineTurns': WHATEVER THE INPUT: true; the input reads as it did. -/
def fnExactSineTurnsSpec : ChangeSpec := { name := "fnExactSineTurns", fn := fun _ => fun
  | [d] => { results := [.lit (.bool true)], args := [d] }
  | _ => none }
def fnExactSineTurnsRow : OpenClaim := { program := "ytnhlnbnldpkmiaa", sum := "bebb721247091ea3fc843ecd40ab31d5b20df3603a396a52bbcc80b51289b1cc", func := "loop.example/g01170/laws.FnExactSineTurns", spec := "fnExactSineTurns", inPlace := ["math.Float64frombits", "math.Float64bits"], plainKeys := false, apart := false }
def FnExactSineTurnsSaid : Prop := fnExactSineTurnsRow.holds Try.pinned (OpenSpec.ofChange fnExactSineTurnsSpec)

/-- ITS FALSE NEIGHBOUR: 'it returns false'. Refute it at one input. -/
def fnExactSineTurnsWrong : ChangeSpec := { name := "fnExactSineTurns", fn := fun _ => fun
  | [d] => { results := [.lit (.bool false)], args := [d] }
  | _ => none }
def FnExactSineTurnsWrongFalsely : Prop := fnExactSineTurnsRow.holds Try.pinned (OpenSpec.ofChange fnExactSineTurnsWrong)

/-- 'laws.FnExactRunFilter': WHATEVER THE INPUT: true; the input reads as it did. -/
def fnExactRunFilterSpec : ChangeSpec := { name := "fnExactRunFilter", fn := fun _ => fun
  | [d1, d2, d3, d4, d5] => { results := [.lit (.bool true)], args := [d1, d2, d3, d4, d5] }
  | _ => none }
def fnExactRunFilterRow : OpenClaim := { program := "ytnhlnbnldpkmiaa", sum := "bebb721247091ea3fc843ecd40ab31d5b20df3603a396a52bbcc80b51289b1cc", func := "loop.example/g01170/laws.FnExactRunFilter", spec := "fnExactRunFilter", inPlace := ["math.Float32bits", "math.Float32frombits"], unfollowed := true, recurses := true, plainKeys := false, apart := false }
def FnExactRunFilterSaid : Prop := fnExactRunFilterRow.holds Try.pinned (OpenSpec.ofChange fnExactRunFilterSpec)

/-- ITS FALSE NEIGHBOUR: 'it returns false'. Refute it at one input. -/
def fnExactRunFilterWrong : ChangeSpec := { name := "fnExactRunFilter", fn := fun _ => fun
  | [d1, d2, d3, d4, d5] => { results := [.lit (.bool false)], args := [d1, d2, d3, d4, d5] }
  | _ => none }
def FnExactRunFilterWrongFalsely : Prop := fnExactRunFilterRow.holds Try.pinned (OpenSpec.ofChange fnExactRunFilterWrong)

/-- 'laws.FnExactRestAfter': WHATEVER THE INPUT: true; the input reads as it did. -/
def fnExactRestAfterSpec : ChangeSpec := { name := "fnExactRestAfter", fn := fun _ => fun
  | [d1, d2, d3, d4] => { results := [.lit (.bool true)], args := [d1, d2, d3, d4] }
  | _ => none }
def fnExactRestAfterRow : OpenClaim := { program := "ytnhlnbnldpkmiaa", sum := "bebb721247091ea3fc843ecd40ab31d5b20df3603a396a52bbcc80b51289b1cc", func := "loop.example/g01170/laws.FnExactRestAfter", spec := "fnExactRestAfter", inPlace := ["math.Float32bits", "math.Float32frombits"], unfollowed := true, recurses := true, plainKeys := false, apart := false }
def FnExactRestAfterSaid : Prop := fnExactRestAfterRow.holds Try.pinned (OpenSpec.ofChange fnExactRestAfterSpec)

/-- ITS FALSE NEIGHBOUR: 'it returns false'. Refute it at one input. -/
def fnExactRestAfterWrong : ChangeSpec := { name := "fnExactRestAfter", fn := fun _ => fun
  | [d1, d2, d3, d4] => { results := [.lit (.bool false)], args := [d1, d2, d3, d4] }
  | _ => none }
def FnExactRestAfterWrongFalsely : Prop := fnExactRestAfterRow.holds Try.pinned (OpenSpec.ofChange fnExactRestAfterWrong)

/-- 'laws.FnExactScaleSamples': WHATEVER THE INPUT: true; the input reads as it did. -/
def fnExactScaleSamplesSpec : ChangeSpec := { name := "fnExactScaleSamples", fn := fun _ => fun
  | [d1, d2] => { results := [.lit (.bool true)], args := [d1, d2] }
  | _ => none }
def fnExactScaleSamplesRow : OpenClaim := { program := "ytnhlnbnldpkmiaa", sum := "bebb721247091ea3fc843ecd40ab31d5b20df3603a396a52bbcc80b51289b1cc", func := "loop.example/g01170/laws.FnExactScaleSamples", spec := "fnExactScaleSamples", plainKeys := false, apart := false }
def FnExactScaleSamplesSaid : Prop := fnExactScaleSamplesRow.holds Try.pinned (OpenSpec.ofChange fnExactScaleSamplesSpec)

/-- ITS FALSE NEIGHBOUR: 'it returns false'. Refute it at one input. -/
def fnExactScaleSamplesWrong : ChangeSpec := { name := "fnExactScaleSamples", fn := fun _ => fun
  | [d1, d2] => { results := [.lit (.bool false)], args := [d1, d2] }
  | _ => none }
def FnExactScaleSamplesWrongFalsely : Prop := fnExactScaleSamplesRow.holds Try.pinned (OpenSpec.ofChange fnExactScaleSamplesWrong)

/- THE SECOND FORM. 'bulk': how many values and letters a reading holds, each counted each time it is reached (what is shared counts as often as it is met; a slice's spare places count too). A statement '..UptoSaid' is the law's where the arguments, and the package variables that the reading takes, are together of bulk at most 1048576: NARROWER than '..Said'. Prove '..Said' where nothing that the law and all that it calls make is longer than what came in: it says more and counts as full. Else prove '..UptoSaid'. A law counts once. -/
mutual
def uptoBulk {H : Type} : DataW H → Nat
  | .lit (.string bytes) => bytes.length + 1
  | .lit _ => 1
  | .nil => 1
  | .ptr d => uptoBulk d + 1
  | .slice elems spare => uptoBulkAll elems + uptoBulkAll spare + 1
  | .agg parts => uptoBulkAll parts + 1
  | .iface _ d => uptoBulk d + 1
  | .map entries => uptoBulkEntries entries + 1
  | .held _ => 1
def uptoBulkAll {H : Type} : List (DataW H) → Nat
  | [] => 0
  | d :: r => uptoBulk d + uptoBulkAll r
def uptoBulkEntries {H : Type} : List (Lit × DataW H) → Nat
  | [] => 0
  | x :: r => uptoBulkEntry x + uptoBulkEntries r
def uptoBulkEntry {H : Type} : Lit × DataW H → Nat
  | (.string bytes, d) => bytes.length + uptoBulk d + 1
  | (_, d) => uptoBulk d + 1
 end
def uptoSmall : (H : Type) → List (DataW H) → Bool := fun _ ds => decide (uptoBulkAll ds ≤ 1048576)
def OpenSpec.upto (s : _root_.Go.ChangeSpec) : _root_.Go.OpenSpec := { _root_.Go.OpenSpec.ofChange s with cond := some uptoSmall }

/-- 'laws.FnExactValidTaps', WHERE WHAT IT READS IS OF BULK AT MOST 1048576: true; the input reads as it did. -/
def fnExactValidTapsUptoRow : OpenClaim := { program := "ytnhlnbnldpkmiaa", sum := "bebb721247091ea3fc843ecd40ab31d5b20df3603a396a52bbcc80b51289b1cc", func := "loop.example/g01170/laws.FnExactValidTaps", spec := "fnExactValidTaps", unfollowed := true, recurses := true, plainKeys := false, apart := false, narrowed := true }
def FnExactValidTapsUptoSaid : Prop := fnExactValidTapsUptoRow.holds Try.pinned (OpenSpec.upto fnExactValidTapsSpec)

/-- 'laws.FnExactRunTaps', WHERE WHAT IT READS IS OF BULK AT MOST 1048576: true; the input reads as it did. -/
def fnExactRunTapsUptoRow : OpenClaim := { program := "ytnhlnbnldpkmiaa", sum := "bebb721247091ea3fc843ecd40ab31d5b20df3603a396a52bbcc80b51289b1cc", func := "loop.example/g01170/laws.FnExactRunTaps", spec := "fnExactRunTaps", unfollowed := true, recurses := true, plainKeys := false, apart := false, narrowed := true }
def FnExactRunTapsUptoSaid : Prop := fnExactRunTapsUptoRow.holds Try.pinned (OpenSpec.upto fnExactRunTapsSpec)

/-- 'laws.FnExactRunChorus', WHERE WHAT IT READS IS OF BULK AT MOST 1048576: true; the input reads as it did. -/
def fnExactRunChorusUptoRow : OpenClaim := { program := "ytnhlnbnldpkmiaa", sum := "bebb721247091ea3fc843ecd40ab31d5b20df3603a396a52bbcc80b51289b1cc", func := "loop.example/g01170/laws.FnExactRunChorus", spec := "fnExactRunChorus", unfollowed := true, recurses := true, plainKeys := false, apart := false, narrowed := true }
def FnExactRunChorusUptoSaid : Prop := fnExactRunChorusUptoRow.holds Try.pinned (OpenSpec.upto fnExactRunChorusSpec)

/-- 'laws.FnExactAreNotes', WHERE WHAT IT READS IS OF BULK AT MOST 1048576: true; the input reads as it did. -/
def fnExactAreNotesUptoRow : OpenClaim := { program := "ytnhlnbnldpkmiaa", sum := "bebb721247091ea3fc843ecd40ab31d5b20df3603a396a52bbcc80b51289b1cc", func := "loop.example/g01170/laws.FnExactAreNotes", spec := "fnExactAreNotes", unfollowed := true, recurses := true, plainKeys := false, apart := false, narrowed := true }
def FnExactAreNotesUptoSaid : Prop := fnExactAreNotesUptoRow.holds Try.pinned (OpenSpec.upto fnExactAreNotesSpec)

/-- 'laws.FnExactRenderNote', WHERE WHAT IT READS IS OF BULK AT MOST 1048576: true; the input reads as it did. -/
def fnExactRenderNoteUptoRow : OpenClaim := { program := "ytnhlnbnldpkmiaa", sum := "bebb721247091ea3fc843ecd40ab31d5b20df3603a396a52bbcc80b51289b1cc", func := "loop.example/g01170/laws.FnExactRenderNote", spec := "fnExactRenderNote", inPlace := ["math.Float64frombits", "math.Float32bits", "math.Float32frombits"], unfollowed := true, recurses := true, plainKeys := false, apart := false, narrowed := true }
def FnExactRenderNoteUptoSaid : Prop := fnExactRenderNoteUptoRow.holds Try.pinned (OpenSpec.upto fnExactRenderNoteSpec)

/-- 'laws.FnExactRunOscillator', WHERE WHAT IT READS IS OF BULK AT MOST 1048576: true; the input reads as it did. -/
def fnExactRunOscillatorUptoRow : OpenClaim := { program := "ytnhlnbnldpkmiaa", sum := "bebb721247091ea3fc843ecd40ab31d5b20df3603a396a52bbcc80b51289b1cc", func := "loop.example/g01170/laws.FnExactRunOscillator", spec := "fnExactRunOscillator", inPlace := ["math.Float64frombits", "math.Float32bits", "math.Float32frombits"], unfollowed := true, recurses := true, plainKeys := false, apart := false, narrowed := true }
def FnExactRunOscillatorUptoSaid : Prop := fnExactRunOscillatorUptoRow.holds Try.pinned (OpenSpec.upto fnExactRunOscillatorSpec)

/-- 'laws.FnExactRunSqueeze', WHERE WHAT IT READS IS OF BULK AT MOST 1048576: true; the input reads as it did. -/
def fnExactRunSqueezeUptoRow : OpenClaim := { program := "ytnhlnbnldpkmiaa", sum := "bebb721247091ea3fc843ecd40ab31d5b20df3603a396a52bbcc80b51289b1cc", func := "loop.example/g01170/laws.FnExactRunSqueeze", spec := "fnExactRunSqueeze", inPlace := ["math.Float32bits", "math.Float32frombits"], unfollowed := true, recurses := true, plainKeys := false, apart := false, narrowed := true }
def FnExactRunSqueezeUptoSaid : Prop := fnExactRunSqueezeUptoRow.holds Try.pinned (OpenSpec.upto fnExactRunSqueezeSpec)

/-- 'laws.FnExactDuckSamples', WHERE WHAT IT READS IS OF BULK AT MOST 1048576: true; the input reads as it did. -/
def fnExactDuckSamplesUptoRow : OpenClaim := { program := "ytnhlnbnldpkmiaa", sum := "bebb721247091ea3fc843ecd40ab31d5b20df3603a396a52bbcc80b51289b1cc", func := "loop.example/g01170/laws.FnExactDuckSamples", spec := "fnExactDuckSamples", inPlace := ["math.Float32bits", "math.Float32frombits"], unfollowed := true, recurses := true, plainKeys := false, apart := false, narrowed := true }
def FnExactDuckSamplesUptoSaid : Prop := fnExactDuckSamplesUptoRow.holds Try.pinned (OpenSpec.upto fnExactDuckSamplesSpec)

/-- 'laws.FnExactSineTurns', WHERE WHAT IT READS IS OF BULK AT MOST 1048576: true; the input reads as it did. -/
def fnExactSineTurnsUptoRow : OpenClaim := { program := "ytnhlnbnldpkmiaa", sum := "bebb721247091ea3fc843ecd40ab31d5b20df3603a396a52bbcc80b51289b1cc", func := "loop.example/g01170/laws.FnExactSineTurns", spec := "fnExactSineTurns", inPlace := ["math.Float64frombits", "math.Float64bits"], plainKeys := false, apart := false, narrowed := true }
def FnExactSineTurnsUptoSaid : Prop := fnExactSineTurnsUptoRow.holds Try.pinned (OpenSpec.upto fnExactSineTurnsSpec)

/-- 'laws.FnExactRunFilter', WHERE WHAT IT READS IS OF BULK AT MOST 1048576: true; the input reads as it did. -/
def fnExactRunFilterUptoRow : OpenClaim := { program := "ytnhlnbnldpkmiaa", sum := "bebb721247091ea3fc843ecd40ab31d5b20df3603a396a52bbcc80b51289b1cc", func := "loop.example/g01170/laws.FnExactRunFilter", spec := "fnExactRunFilter", inPlace := ["math.Float32bits", "math.Float32frombits"], unfollowed := true, recurses := true, plainKeys := false, apart := false, narrowed := true }
def FnExactRunFilterUptoSaid : Prop := fnExactRunFilterUptoRow.holds Try.pinned (OpenSpec.upto fnExactRunFilterSpec)

/-- 'laws.FnExactRestAfter', WHERE WHAT IT READS IS OF BULK AT MOST 1048576: true; the input reads as it did. -/
def fnExactRestAfterUptoRow : OpenClaim := { program := "ytnhlnbnldpkmiaa", sum := "bebb721247091ea3fc843ecd40ab31d5b20df3603a396a52bbcc80b51289b1cc", func := "loop.example/g01170/laws.FnExactRestAfter", spec := "fnExactRestAfter", inPlace := ["math.Float32bits", "math.Float32frombits"], unfollowed := true, recurses := true, plainKeys := false, apart := false, narrowed := true }
def FnExactRestAfterUptoSaid : Prop := fnExactRestAfterUptoRow.holds Try.pinned (OpenSpec.upto fnExactRestAfterSpec)

/-- 'laws.FnExactScaleSamples', WHERE WHAT IT READS IS OF BULK AT MOST 1048576: true; the input reads as it did. -/
def fnExactScaleSamplesUptoRow : OpenClaim := { program := "ytnhlnbnldpkmiaa", sum := "bebb721247091ea3fc843ecd40ab31d5b20df3603a396a52bbcc80b51289b1cc", func := "loop.example/g01170/laws.FnExactScaleSamples", spec := "fnExactScaleSamples", plainKeys := false, apart := false, narrowed := true }
def FnExactScaleSamplesUptoSaid : Prop := fnExactScaleSamplesUptoRow.holds Try.pinned (OpenSpec.upto fnExactScaleSamplesSpec)

end Rows
end Go.Proofs.Ytnhlnbnldpkmiaa
