/-
  No cell of these rows narrows 'for every input' (looked for: loops, veiled, ifaces, maps, wideKeys, modest, calm, conditions, laid).
  DERIVED. THE GIVEN ROWS OF THIS SEAT. 12 by the template 'for every input the law returns true; each argument reads behind the call as it read before'; 0 by the template 'total and deterministic' (their statements: YtcckoplpdehgoabTotals.lean).
  GIVEN WITH THE SEED: the statements are not yours to turn. If you find one false, say at which input.
  Laid BY PROGRAM, IN A SANDBOX (cutbox-rows.mjs): the forced cells as the released guide's own fill.sh prints them over the translation 8b9134bb0bb911c7… (all of the seat's roots in one cut). By AI agents, Wed Nov 11 2026. No macro, syntax, notation, axiom, sorry.
-/
import Derived.Test.YtcckoplpdehgoabChecked
import GoSem.Claim
import GoSem.ClaimJoined
import GoSem.ClaimMapViews
import Derived.JoinedTies
import Derived.KernelRfl
namespace Go.Proofs.Ytcckoplpdehgoab
/- THE CELL 'sum', in the pinned program and in every row, IS THE sha256 OF THE DUMP (.gsa) THAT YtcckoplpdehgoabProg.lean LOADS. Nothing in Lean hashes anything: it is a label: what it is worth is what the hold of that sum in a sandbox is worth. -/
noncomputable def Try.pinned : Pinned := { name := "ytcckoplpdehgoab", sum := "8b9134bb0bb911c7b9a5894e509b95fe07e269ebe38c1d3b812ca92564e9ba11", checked := Try.checked }
namespace Rows
def none {H : Type} : Left H := { results := [], args := [] }

/-- 'laws.FnExactSumNumbers': WHATEVER THE INPUT: true; the input reads as it did. -/
def fnExactSumNumbersSpec : ChangeSpec := { name := "fnExactSumNumbers", fn := fun _ => fun
  | [d] => { results := [.lit (.bool true)], args := [d] }
  | _ => none }
def fnExactSumNumbersRow : OpenClaim := { program := "ytcckoplpdehgoab", sum := "8b9134bb0bb911c7b9a5894e509b95fe07e269ebe38c1d3b812ca92564e9ba11", func := "loop.example/g01170/laws.FnExactSumNumbers", spec := "fnExactSumNumbers", apart := false }
def FnExactSumNumbersSaid : Prop := fnExactSumNumbersRow.holds Try.pinned (OpenSpec.ofChange fnExactSumNumbersSpec)

/-- ITS FALSE NEIGHBOUR: 'it returns false'. Refute it at one input. -/
def fnExactSumNumbersWrong : ChangeSpec := { name := "fnExactSumNumbers", fn := fun _ => fun
  | [d] => { results := [.lit (.bool false)], args := [d] }
  | _ => none }
def FnExactSumNumbersWrongFalsely : Prop := fnExactSumNumbersRow.holds Try.pinned (OpenSpec.ofChange fnExactSumNumbersWrong)

/-- 'laws.FnExactSumPairs': WHATEVER THE INPUT: true; the input reads as it did. -/
def fnExactSumPairsSpec : ChangeSpec := { name := "fnExactSumPairs", fn := fun _ => fun
  | [d] => { results := [.lit (.bool true)], args := [d] }
  | _ => none }
def fnExactSumPairsRow : OpenClaim := { program := "ytcckoplpdehgoab", sum := "8b9134bb0bb911c7b9a5894e509b95fe07e269ebe38c1d3b812ca92564e9ba11", func := "loop.example/g01170/laws.FnExactSumPairs", spec := "fnExactSumPairs", recurses := true, apart := false }
def FnExactSumPairsSaid : Prop := fnExactSumPairsRow.holds Try.pinned (OpenSpec.ofChange fnExactSumPairsSpec)

/-- ITS FALSE NEIGHBOUR: 'it returns false'. Refute it at one input. -/
def fnExactSumPairsWrong : ChangeSpec := { name := "fnExactSumPairs", fn := fun _ => fun
  | [d] => { results := [.lit (.bool false)], args := [d] }
  | _ => none }
def FnExactSumPairsWrongFalsely : Prop := fnExactSumPairsRow.holds Try.pinned (OpenSpec.ofChange fnExactSumPairsWrong)

/-- 'laws.FnExactDotNumbers': WHATEVER THE INPUT: true; the input reads as it did. -/
def fnExactDotNumbersSpec : ChangeSpec := { name := "fnExactDotNumbers", fn := fun _ => fun
  | [d1, d2] => { results := [.lit (.bool true)], args := [d1, d2] }
  | _ => none }
def fnExactDotNumbersRow : OpenClaim := { program := "ytcckoplpdehgoab", sum := "8b9134bb0bb911c7b9a5894e509b95fe07e269ebe38c1d3b812ca92564e9ba11", func := "loop.example/g01170/laws.FnExactDotNumbers", spec := "fnExactDotNumbers", apart := false }
def FnExactDotNumbersSaid : Prop := fnExactDotNumbersRow.holds Try.pinned (OpenSpec.ofChange fnExactDotNumbersSpec)

/-- ITS FALSE NEIGHBOUR: 'it returns false'. Refute it at one input. -/
def fnExactDotNumbersWrong : ChangeSpec := { name := "fnExactDotNumbers", fn := fun _ => fun
  | [d1, d2] => { results := [.lit (.bool false)], args := [d1, d2] }
  | _ => none }
def FnExactDotNumbersWrongFalsely : Prop := fnExactDotNumbersRow.holds Try.pinned (OpenSpec.ofChange fnExactDotNumbersWrong)

/-- 'laws.FnExactDotWide': WHATEVER THE INPUT: true; the input reads as it did. -/
def fnExactDotWideSpec : ChangeSpec := { name := "fnExactDotWide", fn := fun _ => fun
  | [d1, d2] => { results := [.lit (.bool true)], args := [d1, d2] }
  | _ => none }
def fnExactDotWideRow : OpenClaim := { program := "ytcckoplpdehgoab", sum := "8b9134bb0bb911c7b9a5894e509b95fe07e269ebe38c1d3b812ca92564e9ba11", func := "loop.example/g01170/laws.FnExactDotWide", spec := "fnExactDotWide", apart := false }
def FnExactDotWideSaid : Prop := fnExactDotWideRow.holds Try.pinned (OpenSpec.ofChange fnExactDotWideSpec)

/-- ITS FALSE NEIGHBOUR: 'it returns false'. Refute it at one input. -/
def fnExactDotWideWrong : ChangeSpec := { name := "fnExactDotWide", fn := fun _ => fun
  | [d1, d2] => { results := [.lit (.bool false)], args := [d1, d2] }
  | _ => none }
def FnExactDotWideWrongFalsely : Prop := fnExactDotWideRow.holds Try.pinned (OpenSpec.ofChange fnExactDotWideWrong)

/-- 'laws.FnExactScaleSamples': WHATEVER THE INPUT: true; the input reads as it did. -/
def fnExactScaleSamplesSpec : ChangeSpec := { name := "fnExactScaleSamples", fn := fun _ => fun
  | [d1, d2] => { results := [.lit (.bool true)], args := [d1, d2] }
  | _ => none }
def fnExactScaleSamplesRow : OpenClaim := { program := "ytcckoplpdehgoab", sum := "8b9134bb0bb911c7b9a5894e509b95fe07e269ebe38c1d3b812ca92564e9ba11", func := "loop.example/g01170/laws.FnExactScaleSamples", spec := "fnExactScaleSamples", apart := false }
def FnExactScaleSamplesSaid : Prop := fnExactScaleSamplesRow.holds Try.pinned (OpenSpec.ofChange fnExactScaleSamplesSpec)

/-- ITS FALSE NEIGHBOUR: 'it returns false'. Refute it at one input. -/
def fnExactScaleSamplesWrong : ChangeSpec := { name := "fnExactScaleSamples", fn := fun _ => fun
  | [d1, d2] => { results := [.lit (.bool false)], args := [d1, d2] }
  | _ => none }
def FnExactScaleSamplesWrongFalsely : Prop := fnExactScaleSamplesRow.holds Try.pinned (OpenSpec.ofChange fnExactScaleSamplesWrong)

/-- 'laws.FnExactMixSamples': WHATEVER THE INPUT: true; the input reads as it did. -/
def fnExactMixSamplesSpec : ChangeSpec := { name := "fnExactMixSamples", fn := fun _ => fun
  | [d1, d2] => { results := [.lit (.bool true)], args := [d1, d2] }
  | _ => none }
def fnExactMixSamplesRow : OpenClaim := { program := "ytcckoplpdehgoab", sum := "8b9134bb0bb911c7b9a5894e509b95fe07e269ebe38c1d3b812ca92564e9ba11", func := "loop.example/g01170/laws.FnExactMixSamples", spec := "fnExactMixSamples", apart := false }
def FnExactMixSamplesSaid : Prop := fnExactMixSamplesRow.holds Try.pinned (OpenSpec.ofChange fnExactMixSamplesSpec)

/-- ITS FALSE NEIGHBOUR: 'it returns false'. Refute it at one input. -/
def fnExactMixSamplesWrong : ChangeSpec := { name := "fnExactMixSamples", fn := fun _ => fun
  | [d1, d2] => { results := [.lit (.bool false)], args := [d1, d2] }
  | _ => none }
def FnExactMixSamplesWrongFalsely : Prop := fnExactMixSamplesRow.holds Try.pinned (OpenSpec.ofChange fnExactMixSamplesWrong)

/-- 'laws.FnExactPeakOf': WHATEVER THE INPUT: true; the input reads as it did. -/
def fnExactPeakOfSpec : ChangeSpec := { name := "fnExactPeakOf", fn := fun _ => fun
  | [d] => { results := [.lit (.bool true)], args := [d] }
  | _ => none }
def fnExactPeakOfRow : OpenClaim := { program := "ytcckoplpdehgoab", sum := "8b9134bb0bb911c7b9a5894e509b95fe07e269ebe38c1d3b812ca92564e9ba11", func := "loop.example/g01170/laws.FnExactPeakOf", spec := "fnExactPeakOf", inPlace := ["math.Float32bits", "math.Float32frombits"], apart := false }
def FnExactPeakOfSaid : Prop := fnExactPeakOfRow.holds Try.pinned (OpenSpec.ofChange fnExactPeakOfSpec)

/-- ITS FALSE NEIGHBOUR: 'it returns false'. Refute it at one input. -/
def fnExactPeakOfWrong : ChangeSpec := { name := "fnExactPeakOf", fn := fun _ => fun
  | [d] => { results := [.lit (.bool false)], args := [d] }
  | _ => none }
def FnExactPeakOfWrongFalsely : Prop := fnExactPeakOfRow.holds Try.pinned (OpenSpec.ofChange fnExactPeakOfWrong)

/-- 'laws.FnSums': WHATEVER THE INPUT: true; the input reads as it did. -/
def fnSumsSpec : ChangeSpec := { name := "fnSums", fn := fun _ => fun
  | [d1, d2] => { results := [.lit (.bool true)], args := [d1, d2] }
  | _ => none }
def fnSumsRow : OpenClaim := { program := "ytcckoplpdehgoab", sum := "8b9134bb0bb911c7b9a5894e509b95fe07e269ebe38c1d3b812ca92564e9ba11", func := "loop.example/g01170/laws.FnSums", spec := "fnSums", inPlace := ["math.Float32frombits", "math.Float32bits"], recurses := true, apart := false }
def FnSumsSaid : Prop := fnSumsRow.holds Try.pinned (OpenSpec.ofChange fnSumsSpec)

/-- ITS FALSE NEIGHBOUR: 'it returns false'. Refute it at one input. -/
def fnSumsWrong : ChangeSpec := { name := "fnSums", fn := fun _ => fun
  | [d1, d2] => { results := [.lit (.bool false)], args := [d1, d2] }
  | _ => none }
def FnSumsWrongFalsely : Prop := fnSumsRow.holds Try.pinned (OpenSpec.ofChange fnSumsWrong)

/-- 'laws.FnFlushed': WHATEVER THE INPUT: true; the input reads as it did. -/
def fnFlushedSpec : ChangeSpec := { name := "fnFlushed", fn := fun _ => fun
  | [d1, d2] => { results := [.lit (.bool true)], args := [d1, d2] }
  | _ => none }
def fnFlushedRow : OpenClaim := { program := "ytcckoplpdehgoab", sum := "8b9134bb0bb911c7b9a5894e509b95fe07e269ebe38c1d3b812ca92564e9ba11", func := "loop.example/g01170/laws.FnFlushed", spec := "fnFlushed", inPlace := ["math.Float32frombits", "math.Float32bits"], apart := false }
def FnFlushedSaid : Prop := fnFlushedRow.holds Try.pinned (OpenSpec.ofChange fnFlushedSpec)

/-- ITS FALSE NEIGHBOUR: 'it returns false'. Refute it at one input. -/
def fnFlushedWrong : ChangeSpec := { name := "fnFlushed", fn := fun _ => fun
  | [d1, d2] => { results := [.lit (.bool false)], args := [d1, d2] }
  | _ => none }
def FnFlushedWrongFalsely : Prop := fnFlushedRow.holds Try.pinned (OpenSpec.ofChange fnFlushedWrong)

/-- 'laws.FnExactExpNumber': WHATEVER THE INPUT: true; the input reads as it did. -/
def fnExactExpNumberSpec : ChangeSpec := { name := "fnExactExpNumber", fn := fun _ => fun
  | [d] => { results := [.lit (.bool true)], args := [d] }
  | _ => none }
def fnExactExpNumberRow : OpenClaim := { program := "ytcckoplpdehgoab", sum := "8b9134bb0bb911c7b9a5894e509b95fe07e269ebe38c1d3b812ca92564e9ba11", func := "loop.example/g01170/laws.FnExactExpNumber", spec := "fnExactExpNumber", inPlace := ["math.Float64frombits"], apart := false }
def FnExactExpNumberSaid : Prop := fnExactExpNumberRow.holds Try.pinned (OpenSpec.ofChange fnExactExpNumberSpec)

/-- ITS FALSE NEIGHBOUR: 'it returns false'. Refute it at one input. -/
def fnExactExpNumberWrong : ChangeSpec := { name := "fnExactExpNumber", fn := fun _ => fun
  | [d] => { results := [.lit (.bool false)], args := [d] }
  | _ => none }
def FnExactExpNumberWrongFalsely : Prop := fnExactExpNumberRow.holds Try.pinned (OpenSpec.ofChange fnExactExpNumberWrong)

/-- 'laws.FnExactTanhNumber': WHATEVER THE INPUT: true; the input reads as it did. -/
def fnExactTanhNumberSpec : ChangeSpec := { name := "fnExactTanhNumber", fn := fun _ => fun
  | [d] => { results := [.lit (.bool true)], args := [d] }
  | _ => none }
def fnExactTanhNumberRow : OpenClaim := { program := "ytcckoplpdehgoab", sum := "8b9134bb0bb911c7b9a5894e509b95fe07e269ebe38c1d3b812ca92564e9ba11", func := "loop.example/g01170/laws.FnExactTanhNumber", spec := "fnExactTanhNumber", inPlace := ["math.Float64frombits"], apart := false }
def FnExactTanhNumberSaid : Prop := fnExactTanhNumberRow.holds Try.pinned (OpenSpec.ofChange fnExactTanhNumberSpec)

/-- ITS FALSE NEIGHBOUR: 'it returns false'. Refute it at one input. -/
def fnExactTanhNumberWrong : ChangeSpec := { name := "fnExactTanhNumber", fn := fun _ => fun
  | [d] => { results := [.lit (.bool false)], args := [d] }
  | _ => none }
def FnExactTanhNumberWrongFalsely : Prop := fnExactTanhNumberRow.holds Try.pinned (OpenSpec.ofChange fnExactTanhNumberWrong)

/-- 'laws.FnExactGainOf': WHATEVER THE INPUT: true; the input reads as it did. -/
def fnExactGainOfSpec : ChangeSpec := { name := "fnExactGainOf", fn := fun _ => fun
  | [d] => { results := [.lit (.bool true)], args := [d] }
  | _ => none }
def fnExactGainOfRow : OpenClaim := { program := "ytcckoplpdehgoab", sum := "8b9134bb0bb911c7b9a5894e509b95fe07e269ebe38c1d3b812ca92564e9ba11", func := "loop.example/g01170/laws.FnExactGainOf", spec := "fnExactGainOf", inPlace := ["math.Float64frombits"], apart := false }
def FnExactGainOfSaid : Prop := fnExactGainOfRow.holds Try.pinned (OpenSpec.ofChange fnExactGainOfSpec)

/-- ITS FALSE NEIGHBOUR: 'it returns false'. Refute it at one input. -/
def fnExactGainOfWrong : ChangeSpec := { name := "fnExactGainOf", fn := fun _ => fun
  | [d] => { results := [.lit (.bool false)], args := [d] }
  | _ => none }
def FnExactGainOfWrongFalsely : Prop := fnExactGainOfRow.holds Try.pinned (OpenSpec.ofChange fnExactGainOfWrong)

/- THE SECOND FORM. 'bulk': how many values and letters a reading holds, each counted each time it is reached (what is shared counts as often as it is met; a slice's spare places count too). A statement '..UptoSaid' is the law's where the arguments, and the package variables that the reading takes, are together of bulk at most 1048576: NARROWER than '..Said'. Prove '..Said' where nothing that the law and all that it calls make is longer than what came in: it says more and counts as full. Else prove '..UptoSaid'. A law counts once. -/
mutual
def uptoBulk {H : Type} : DataW H → Nat
  | .lit (.string bytes) => bytes.length + 1
  | .lit _ => 1
  | .nil => 1
  | .ptr d => uptoBulk d + 1
  | .slice elems spare => uptoBulkAll elems + uptoBulkAll spare + 1
  | .agg parts => uptoBulkAll parts + 1
  | .iface _ d => uptoBulk d + 1
  | .map entries => uptoBulkEntries entries + 1
  | .held _ => 1
def uptoBulkAll {H : Type} : List (DataW H) → Nat
  | [] => 0
  | d :: r => uptoBulk d + uptoBulkAll r
def uptoBulkEntries {H : Type} : List (Lit × DataW H) → Nat
  | [] => 0
  | x :: r => uptoBulkEntry x + uptoBulkEntries r
def uptoBulkEntry {H : Type} : Lit × DataW H → Nat
  | (.string bytes, d) => bytes.length + uptoBulk d + 1
  | (_, d) => uptoBulk d + 1
 end
def uptoSmall : (H : Type) → List (DataW H) → Bool := fun _ ds => decide (uptoBulkAll ds ≤ 1048576)
def OpenSpec.upto (s : _root_.Go.ChangeSpec) : _root_.Go.OpenSpec := { _root_.Go.OpenSpec.ofChange s with cond := some uptoSmall }

/-- 'laws.FnExactSumNumbers', WHERE WHAT IT READS IS OF BULK AT MOST 1048576: true; the input reads as it did. -/
def fnExactSumNumbersUptoRow : OpenClaim := { program := "ytcckoplpdehgoab", sum := "8b9134bb0bb911c7b9a5894e509b95fe07e269ebe38c1d3b812ca92564e9ba11", func := "loop.example/g01170/laws.FnExactSumNumbers", spec := "fnExactSumNumbers", apart := false, narrowed := true }
def FnExactSumNumbersUptoSaid : Prop := fnExactSumNumbersUptoRow.holds Try.pinned (OpenSpec.upto fnExactSumNumbersSpec)

/-- 'laws.FnExactSumPairs', WHERE WHAT IT READS IS OF BULK AT MOST 1048576: true; the input reads as it did. -/
def fnExactSumPairsUptoRow : OpenClaim := { program := "ytcckoplpdehgoab", sum := "8b9134bb0bb911c7b9a5894e509b95fe07e269ebe38c1d3b812ca92564e9ba11", func := "loop.example/g01170/laws.FnExactSumPairs", spec := "fnExactSumPairs", recurses := true, apart := false, narrowed := true }
def FnExactSumPairsUptoSaid : Prop := fnExactSumPairsUptoRow.holds Try.pinned (OpenSpec.upto fnExactSumPairsSpec)

/-- 'laws.FnExactDotNumbers', WHERE WHAT IT READS IS OF BULK AT MOST 1048576: true; the input reads as it did. -/
def fnExactDotNumbersUptoRow : OpenClaim := { program := "ytcckoplpdehgoab", sum := "8b9134bb0bb911c7b9a5894e509b95fe07e269ebe38c1d3b812ca92564e9ba11", func := "loop.example/g01170/laws.FnExactDotNumbers", spec := "fnExactDotNumbers", apart := false, narrowed := true }
def FnExactDotNumbersUptoSaid : Prop := fnExactDotNumbersUptoRow.holds Try.pinned (OpenSpec.upto fnExactDotNumbersSpec)

/-- 'laws.FnExactDotWide', WHERE WHAT IT READS IS OF BULK AT MOST 1048576: true; the input reads as it did. -/
def fnExactDotWideUptoRow : OpenClaim := { program := "ytcckoplpdehgoab", sum := "8b9134bb0bb911c7b9a5894e509b95fe07e269ebe38c1d3b812ca92564e9ba11", func := "loop.example/g01170/laws.FnExactDotWide", spec := "fnExactDotWide", apart := false, narrowed := true }
def FnExactDotWideUptoSaid : Prop := fnExactDotWideUptoRow.holds Try.pinned (OpenSpec.upto fnExactDotWideSpec)

/-- 'laws.FnExactScaleSamples', WHERE WHAT IT READS IS OF BULK AT MOST 1048576: true; the input reads as it did. -/
def fnExactScaleSamplesUptoRow : OpenClaim := { program := "ytcckoplpdehgoab", sum := "8b9134bb0bb911c7b9a5894e509b95fe07e269ebe38c1d3b812ca92564e9ba11", func := "loop.example/g01170/laws.FnExactScaleSamples", spec := "fnExactScaleSamples", apart := false, narrowed := true }
def FnExactScaleSamplesUptoSaid : Prop := fnExactScaleSamplesUptoRow.holds Try.pinned (OpenSpec.upto fnExactScaleSamplesSpec)

/-- 'laws.FnExactMixSamples', WHERE WHAT IT READS IS OF BULK AT MOST 1048576: true; the input reads as it did. -/
def fnExactMixSamplesUptoRow : OpenClaim := { program := "ytcckoplpdehgoab", sum := "8b9134bb0bb911c7b9a5894e509b95fe07e269ebe38c1d3b812ca92564e9ba11", func := "loop.example/g01170/laws.FnExactMixSamples", spec := "fnExactMixSamples", apart := false, narrowed := true }
def FnExactMixSamplesUptoSaid : Prop := fnExactMixSamplesUptoRow.holds Try.pinned (OpenSpec.upto fnExactMixSamplesSpec)

/-- 'laws.FnExactPeakOf', WHERE WHAT IT READS IS OF BULK AT MOST 1048576: true; the input reads as it did. -/
def fnExactPeakOfUptoRow : OpenClaim := { program := "ytcckoplpdehgoab", sum := "8b9134bb0bb911c7b9a5894e509b95fe07e269ebe38c1d3b812ca92564e9ba11", func := "loop.example/g01170/laws.FnExactPeakOf", spec := "fnExactPeakOf", inPlace := ["math.Float32bits", "math.Float32frombits"], apart := false, narrowed := true }
def FnExactPeakOfUptoSaid : Prop := fnExactPeakOfUptoRow.holds Try.pinned (OpenSpec.upto fnExactPeakOfSpec)

/-- 'laws.FnSums', WHERE WHAT IT READS IS OF BULK AT MOST 1048576: true; the input reads as it did. -/
def fnSumsUptoRow : OpenClaim := { program := "ytcckoplpdehgoab", sum := "8b9134bb0bb911c7b9a5894e509b95fe07e269ebe38c1d3b812ca92564e9ba11", func := "loop.example/g01170/laws.FnSums", spec := "fnSums", inPlace := ["math.Float32frombits", "math.Float32bits"], recurses := true, apart := false, narrowed := true }
def FnSumsUptoSaid : Prop := fnSumsUptoRow.holds Try.pinned (OpenSpec.upto fnSumsSpec)

/-- 'laws.FnFlushed', WHERE WHAT IT READS IS OF BULK AT MOST 1048576: true; the input reads as it did. -/
def fnFlushedUptoRow : OpenClaim := { program := "ytcckoplpdehgoab", sum := "8b9134bb0bb911c7b9a5894e509b95fe07e269ebe38c1d3b812ca92564e9ba11", func := "loop.example/g01170/laws.FnFlushed", spec := "fnFlushed", inPlace := ["math.Float32frombits", "math.Float32bits"], apart := false, narrowed := true }
def FnFlushedUptoSaid : Prop := fnFlushedUptoRow.holds Try.pinned (OpenSpec.upto fnFlushedSpec)

/-- 'laws.FnExactExpNumber', WHERE WHAT IT READS IS OF BULK AT MOST 1048576: true; the input reads as it did. -/
def fnExactExpNumberUptoRow : OpenClaim := { program := "ytcckoplpdehgoab", sum := "8b9134bb0bb911c7b9a5894e509b95fe07e269ebe38c1d3b812ca92564e9ba11", func := "loop.example/g01170/laws.FnExactExpNumber", spec := "fnExactExpNumber", inPlace := ["math.Float64frombits"], apart := false, narrowed := true }
def FnExactExpNumberUptoSaid : Prop := fnExactExpNumberUptoRow.holds Try.pinned (OpenSpec.upto fnExactExpNumberSpec)

/-- 'laws.FnExactTanhNumber', WHERE WHAT IT READS IS OF BULK AT MOST 1048576: true; the input reads as it did. -/
def fnExactTanhNumberUptoRow : OpenClaim := { program := "ytcckoplpdehgoab", sum := "8b9134bb0bb911c7b9a5894e509b95fe07e269ebe38c1d3b812ca92564e9ba11", func := "loop.example/g01170/laws.FnExactTanhNumber", spec := "fnExactTanhNumber", inPlace := ["math.Float64frombits"], apart := false, narrowed := true }
def FnExactTanhNumberUptoSaid : Prop := fnExactTanhNumberUptoRow.holds Try.pinned (OpenSpec.upto fnExactTanhNumberSpec)

/-- 'laws.FnExactGainOf', WHERE WHAT IT READS IS OF BULK AT MOST 1048576: true; the input reads as it did. -/
def fnExactGainOfUptoRow : OpenClaim := { program := "ytcckoplpdehgoab", sum := "8b9134bb0bb911c7b9a5894e509b95fe07e269ebe38c1d3b812ca92564e9ba11", func := "loop.example/g01170/laws.FnExactGainOf", spec := "fnExactGainOf", inPlace := ["math.Float64frombits"], apart := false, narrowed := true }
def FnExactGainOfUptoSaid : Prop := fnExactGainOfUptoRow.holds Try.pinned (OpenSpec.upto fnExactGainOfSpec)

end Rows
end Go.Proofs.Ytcckoplpdehgoab
