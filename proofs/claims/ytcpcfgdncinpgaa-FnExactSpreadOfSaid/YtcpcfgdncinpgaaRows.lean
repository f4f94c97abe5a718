/-
  No cell of these rows narrows 'for every input' (looked for: loops, veiled, ifaces, maps, wideKeys, modest, calm, conditions, laid).
  DERIVED. THE GIVEN ROWS OF THIS SEAT. 12 by the template 'for every input the law returns true; each argument reads behind the call as it read before'; 0 by the template 'total and deterministic' (their statements: YtcpcfgdncinpgaaTotals.lean).
  GIVEN WITH THE SEED: the statements are not yours to turn. If you find one false, say at which input.
  Laid BY PROGRAM, IN A SANDBOX (cutbox-rows.mjs): the forced cells as the released guide's own fill.sh prints them over the translation e740d12497240037… (all of the seat's roots in one cut). By AI agents, Wed Nov 11 2026. No macro, syntax, notation, axiom, sorry.
-/
import Derived.Test.YtcpcfgdncinpgaaChecked
import GoSem.Claim
import GoSem.ClaimJoined
import GoSem.ClaimMapViews
import Derived.JoinedTies
import Derived.KernelRfl
namespace Go.Proofs.Ytcpcfgdncinpgaa
/- THE CELL 'sum', in the pinned program and in every row, IS THE sha256 OF THE DUMP (.gsa) THAT YtcpcfgdncinpgaaProg.lean LOADS. Nothing in Lean hashes anything: it is a label: what it is worth is what the hold of that sum in a sandbox is worth. -/
noncomputable def Try.pinned : Pinned := { name := "ytcpcfgdncinpgaa", sum := "e740d12497240037e45c6297154fb0d65adb1f62daa447ef031c16cb2eb328a1", checked := Try.checked }
namespace Rows
def none {H : Type} : Left H := { results := [], args := [] }

/-- 'laws.FnExactPeakBetween': WHATEVER THE INPUT: true; the input reads as it did. -/
def fnExactPeakBetweenSpec : ChangeSpec := { name := "fnExactPeakBetween", fn := fun _ => fun
  | [d] => { results := [.lit (.bool true)], args := [d] }
  | _ => none }
def fnExactPeakBetweenRow : OpenClaim := { program := "ytcpcfgdncinpgaa", sum := "e740d12497240037e45c6297154fb0d65adb1f62daa447ef031c16cb2eb328a1", func := "loop.example/g01170/laws.FnExactPeakBetween", spec := "fnExactPeakBetween", inPlace := ["math.Float32bits", "math.Float32frombits"], unfollowed := true, recurses := true, apart := false }
def FnExactPeakBetweenSaid : Prop := fnExactPeakBetweenRow.holds Try.pinned (OpenSpec.ofChange fnExactPeakBetweenSpec)

/-- ITS FALSE NEIGHBOUR: 'it returns false'. Refute it at one input. -/
def fnExactPeakBetweenWrong : ChangeSpec := { name := "fnExactPeakBetween", fn := fun _ => fun
  | [d] => { results := [.lit (.bool false)], args := [d] }
  | _ => none }
def FnExactPeakBetweenWrongFalsely : Prop := fnExactPeakBetweenRow.holds Try.pinned (OpenSpec.ofChange fnExactPeakBetweenWrong)

/-- 'laws.FnExactClippedRuns': WHATEVER THE INPUT: true; the input reads as it did. -/
def fnExactClippedRunsSpec : ChangeSpec := { name := "fnExactClippedRuns", fn := fun _ => fun
  | [d1, d2, d3] => { results := [.lit (.bool true)], args := [d1, d2, d3] }
  | _ => none }
def fnExactClippedRunsRow : OpenClaim := { program := "ytcpcfgdncinpgaa", sum := "e740d12497240037e45c6297154fb0d65adb1f62daa447ef031c16cb2eb328a1", func := "loop.example/g01170/laws.FnExactClippedRuns", spec := "fnExactClippedRuns", inPlace := ["math.Float32bits", "math.Float32frombits"], unfollowed := true, recurses := true, apart := false }
def FnExactClippedRunsSaid : Prop := fnExactClippedRunsRow.holds Try.pinned (OpenSpec.ofChange fnExactClippedRunsSpec)

/-- ITS FALSE NEIGHBOUR: 'it returns false'. Refute it at one input. -/
def fnExactClippedRunsWrong : ChangeSpec := { name := "fnExactClippedRuns", fn := fun _ => fun
  | [d1, d2, d3] => { results := [.lit (.bool false)], args := [d1, d2, d3] }
  | _ => none }
def FnExactClippedRunsWrongFalsely : Prop := fnExactClippedRunsRow.holds Try.pinned (OpenSpec.ofChange fnExactClippedRunsWrong)

/-- 'laws.FnExactCrossingsOf': WHATEVER THE INPUT: true; the input reads as it did. -/
def fnExactCrossingsOfSpec : ChangeSpec := { name := "fnExactCrossingsOf", fn := fun _ => fun
  | [d] => { results := [.lit (.bool true)], args := [d] }
  | _ => none }
def fnExactCrossingsOfRow : OpenClaim := { program := "ytcpcfgdncinpgaa", sum := "e740d12497240037e45c6297154fb0d65adb1f62daa447ef031c16cb2eb328a1", func := "loop.example/g01170/laws.FnExactCrossingsOf", spec := "fnExactCrossingsOf", unfollowed := true, recurses := true, apart := false }
def FnExactCrossingsOfSaid : Prop := fnExactCrossingsOfRow.holds Try.pinned (OpenSpec.ofChange fnExactCrossingsOfSpec)

/-- ITS FALSE NEIGHBOUR: 'it returns false'. Refute it at one input. -/
def fnExactCrossingsOfWrong : ChangeSpec := { name := "fnExactCrossingsOf", fn := fun _ => fun
  | [d] => { results := [.lit (.bool false)], args := [d] }
  | _ => none }
def FnExactCrossingsOfWrongFalsely : Prop := fnExactCrossingsOfRow.holds Try.pinned (OpenSpec.ofChange fnExactCrossingsOfWrong)

/-- 'laws.FnExactLagPower': WHATEVER THE INPUT: true; the input reads as it did. -/
def fnExactLagPowerSpec : ChangeSpec := { name := "fnExactLagPower", fn := fun _ => fun
  | [d1, d2, d3] => { results := [.lit (.bool true)], args := [d1, d2, d3] }
  | _ => none }
def fnExactLagPowerRow : OpenClaim := { program := "ytcpcfgdncinpgaa", sum := "e740d12497240037e45c6297154fb0d65adb1f62daa447ef031c16cb2eb328a1", func := "loop.example/g01170/laws.FnExactLagPower", spec := "fnExactLagPower", apart := false }
def FnExactLagPowerSaid : Prop := fnExactLagPowerRow.holds Try.pinned (OpenSpec.ofChange fnExactLagPowerSpec)

/-- ITS FALSE NEIGHBOUR: 'it returns false'. Refute it at one input. -/
def fnExactLagPowerWrong : ChangeSpec := { name := "fnExactLagPower", fn := fun _ => fun
  | [d1, d2, d3] => { results := [.lit (.bool false)], args := [d1, d2, d3] }
  | _ => none }
def FnExactLagPowerWrongFalsely : Prop := fnExactLagPowerRow.holds Try.pinned (OpenSpec.ofChange fnExactLagPowerWrong)

/-- 'laws.FnExactWindowPowers': WHATEVER THE INPUT: true; the input reads as it did. -/
def fnExactWindowPowersSpec : ChangeSpec := { name := "fnExactWindowPowers", fn := fun _ => fun
  | [d1, d2, d3] => { results := [.lit (.bool true)], args := [d1, d2, d3] }
  | _ => none }
def fnExactWindowPowersRow : OpenClaim := { program := "ytcpcfgdncinpgaa", sum := "e740d12497240037e45c6297154fb0d65adb1f62daa447ef031c16cb2eb328a1", func := "loop.example/g01170/laws.FnExactWindowPowers", spec := "fnExactWindowPowers", unfollowed := true, recurses := true, apart := false }
def FnExactWindowPowersSaid : Prop := fnExactWindowPowersRow.holds Try.pinned (OpenSpec.ofChange fnExactWindowPowersSpec)

/-- ITS FALSE NEIGHBOUR: 'it returns false'. Refute it at one input. -/
def fnExactWindowPowersWrong : ChangeSpec := { name := "fnExactWindowPowers", fn := fun _ => fun
  | [d1, d2, d3] => { results := [.lit (.bool false)], args := [d1, d2, d3] }
  | _ => none }
def FnExactWindowPowersWrongFalsely : Prop := fnExactWindowPowersRow.holds Try.pinned (OpenSpec.ofChange fnExactWindowPowersWrong)

/-- 'laws.FnExactLoudnessOf': WHATEVER THE INPUT: true; the input reads as it did. -/
def fnExactLoudnessOfSpec : ChangeSpec := { name := "fnExactLoudnessOf", fn := fun _ => fun
  | [d1, d2, d3, d4] => { results := [.lit (.bool true)], args := [d1, d2, d3, d4] }
  | _ => none }
def fnExactLoudnessOfRow : OpenClaim := { program := "ytcpcfgdncinpgaa", sum := "e740d12497240037e45c6297154fb0d65adb1f62daa447ef031c16cb2eb328a1", func := "loop.example/g01170/laws.FnExactLoudnessOf", spec := "fnExactLoudnessOf", unfollowed := true, recurses := true, apart := false }
def FnExactLoudnessOfSaid : Prop := fnExactLoudnessOfRow.holds Try.pinned (OpenSpec.ofChange fnExactLoudnessOfSpec)

/-- ITS FALSE NEIGHBOUR: 'it returns false'. Refute it at one input. -/
def fnExactLoudnessOfWrong : ChangeSpec := { name := "fnExactLoudnessOf", fn := fun _ => fun
  | [d1, d2, d3, d4] => { results := [.lit (.bool false)], args := [d1, d2, d3, d4] }
  | _ => none }
def FnExactLoudnessOfWrongFalsely : Prop := fnExactLoudnessOfRow.holds Try.pinned (OpenSpec.ofChange fnExactLoudnessOfWrong)

/-- 'laws.FnExactTenthsOf': WHATEVER THE INPUT: true; the input reads as it did. -/
def fnExactTenthsOfSpec : ChangeSpec := { name := "fnExactTenthsOf", fn := fun _ => fun
  | [d] => { results := [.lit (.bool true)], args := [d] }
  | _ => none }
def fnExactTenthsOfRow : OpenClaim := { program := "ytcpcfgdncinpgaa", sum := "e740d12497240037e45c6297154fb0d65adb1f62daa447ef031c16cb2eb328a1", func := "loop.example/g01170/laws.FnExactTenthsOf", spec := "fnExactTenthsOf", inPlace := ["math.Float64frombits", "math.Float64bits", "math.RoundToEven", "math.Float32bits"], apart := false }
def FnExactTenthsOfSaid : Prop := fnExactTenthsOfRow.holds Try.pinned (OpenSpec.ofChange fnExactTenthsOfSpec)

/-- ITS FALSE NEIGHBOUR: 'it returns false'. Refute it at one input. -/
def fnExactTenthsOfWrong : ChangeSpec := { name := "fnExactTenthsOf", fn := fun _ => fun
  | [d] => { results := [.lit (.bool false)], args := [d] }
  | _ => none }
def FnExactTenthsOfWrongFalsely : Prop := fnExactTenthsOfRow.holds Try.pinned (OpenSpec.ofChange fnExactTenthsOfWrong)

/-- 'laws.FnExactLikenessOf': WHATEVER THE INPUT: true; the input reads as it did. -/
def fnExactLikenessOfSpec : ChangeSpec := { name := "fnExactLikenessOf", fn := fun _ => fun
  | [d1, d2] => { results := [.lit (.bool true)], args := [d1, d2] }
  | _ => none }
def fnExactLikenessOfRow : OpenClaim := { program := "ytcpcfgdncinpgaa", sum := "e740d12497240037e45c6297154fb0d65adb1f62daa447ef031c16cb2eb328a1", func := "loop.example/g01170/laws.FnExactLikenessOf", spec := "fnExactLikenessOf", inPlace := ["math.sqrt"], unfollowed := true, recurses := true, apart := false }
def FnExactLikenessOfSaid : Prop := fnExactLikenessOfRow.holds Try.pinned (OpenSpec.ofChange fnExactLikenessOfSpec)

/-- ITS FALSE NEIGHBOUR: 'it returns false'. Refute it at one input. -/
def fnExactLikenessOfWrong : ChangeSpec := { name := "fnExactLikenessOf", fn := fun _ => fun
  | [d1, d2] => { results := [.lit (.bool false)], args := [d1, d2] }
  | _ => none }
def FnExactLikenessOfWrongFalsely : Prop := fnExactLikenessOfRow.holds Try.pinned (OpenSpec.ofChange fnExactLikenessOfWrong)

/-- 'laws.FnExactBalanceOf': WHATEVER THE INPUT: true; the input reads as it did. -/
def fnExactBalanceOfSpec : ChangeSpec := { name := "fnExactBalanceOf", fn := fun _ => fun
  | [d1, d2] => { results := [.lit (.bool true)], args := [d1, d2] }
  | _ => none }
def fnExactBalanceOfRow : OpenClaim := { program := "ytcpcfgdncinpgaa", sum := "e740d12497240037e45c6297154fb0d65adb1f62daa447ef031c16cb2eb328a1", func := "loop.example/g01170/laws.FnExactBalanceOf", spec := "fnExactBalanceOf", inPlace := ["math.sqrt"], unfollowed := true, recurses := true, apart := false }
def FnExactBalanceOfSaid : Prop := fnExactBalanceOfRow.holds Try.pinned (OpenSpec.ofChange fnExactBalanceOfSpec)

/-- ITS FALSE NEIGHBOUR: 'it returns false'. Refute it at one input. -/
def fnExactBalanceOfWrong : ChangeSpec := { name := "fnExactBalanceOf", fn := fun _ => fun
  | [d1, d2] => { results := [.lit (.bool false)], args := [d1, d2] }
  | _ => none }
def FnExactBalanceOfWrongFalsely : Prop := fnExactBalanceOfRow.holds Try.pinned (OpenSpec.ofChange fnExactBalanceOfWrong)

/-- 'laws.FnExactSpreadOf': WHATEVER THE INPUT: true; the input reads as it did. -/
def fnExactSpreadOfSpec : ChangeSpec := { name := "fnExactSpreadOf", fn := fun _ => fun
  | [d1, d2] => { results := [.lit (.bool true)], args := [d1, d2] }
  | _ => none }
def fnExactSpreadOfRow : OpenClaim := { program := "ytcpcfgdncinpgaa", sum := "e740d12497240037e45c6297154fb0d65adb1f62daa447ef031c16cb2eb328a1", func := "loop.example/g01170/laws.FnExactSpreadOf", spec := "fnExactSpreadOf", apart := false }
def FnExactSpreadOfSaid : Prop := fnExactSpreadOfRow.holds Try.pinned (OpenSpec.ofChange fnExactSpreadOfSpec)

/-- ITS FALSE NEIGHBOUR: 'it returns false'. Refute it at one input. -/
def fnExactSpreadOfWrong : ChangeSpec := { name := "fnExactSpreadOf", fn := fun _ => fun
  | [d1, d2] => { results := [.lit (.bool false)], args := [d1, d2] }
  | _ => none }
def FnExactSpreadOfWrongFalsely : Prop := fnExactSpreadOfRow.holds Try.pinned (OpenSpec.ofChange fnExactSpreadOfWrong)

/-- 'laws.FnExactHoldPeaks': WHATEVER THE INPUT: true; the input reads as it did. -/
def fnExactHoldPeaksSpec : ChangeSpec := { name := "fnExactHoldPeaks", fn := fun _ => fun
  | [d1, d2, d3] => { results := [.lit (.bool true)], args := [d1, d2, d3] }
  | _ => none }
def fnExactHoldPeaksRow : OpenClaim := { program := "ytcpcfgdncinpgaa", sum := "e740d12497240037e45c6297154fb0d65adb1f62daa447ef031c16cb2eb328a1", func := "loop.example/g01170/laws.FnExactHoldPeaks", spec := "fnExactHoldPeaks", inPlace := ["math.Float32bits", "math.Float32frombits"], unfollowed := true, recurses := true, apart := false }
def FnExactHoldPeaksSaid : Prop := fnExactHoldPeaksRow.holds Try.pinned (OpenSpec.ofChange fnExactHoldPeaksSpec)

/-- ITS FALSE NEIGHBOUR: 'it returns false'. Refute it at one input. -/
def fnExactHoldPeaksWrong : ChangeSpec := { name := "fnExactHoldPeaks", fn := fun _ => fun
  | [d1, d2, d3] => { results := [.lit (.bool false)], args := [d1, d2, d3] }
  | _ => none }
def FnExactHoldPeaksWrongFalsely : Prop := fnExactHoldPeaksRow.holds Try.pinned (OpenSpec.ofChange fnExactHoldPeaksWrong)

/-- 'laws.FnExactPeakOf': WHATEVER THE INPUT: true; the input reads as it did. -/
def fnExactPeakOfSpec : ChangeSpec := { name := "fnExactPeakOf", fn := fun _ => fun
  | [d] => { results := [.lit (.bool true)], args := [d] }
  | _ => none }
def fnExactPeakOfRow : OpenClaim := { program := "ytcpcfgdncinpgaa", sum := "e740d12497240037e45c6297154fb0d65adb1f62daa447ef031c16cb2eb328a1", func := "loop.example/g01170/laws.FnExactPeakOf", spec := "fnExactPeakOf", inPlace := ["math.Float32bits", "math.Float32frombits"], apart := false }
def FnExactPeakOfSaid : Prop := fnExactPeakOfRow.holds Try.pinned (OpenSpec.ofChange fnExactPeakOfSpec)

/-- ITS FALSE NEIGHBOUR: 'it returns false'. Refute it at one input. -/
def fnExactPeakOfWrong : ChangeSpec := { name := "fnExactPeakOf", fn := fun _ => fun
  | [d] => { results := [.lit (.bool false)], args := [d] }
  | _ => none }
def FnExactPeakOfWrongFalsely : Prop := fnExactPeakOfRow.holds Try.pinned (OpenSpec.ofChange fnExactPeakOfWrong)

/- THE SECOND FORM. 'bulk': how many values and letters a reading holds, each counted each time it is reached (what is shared counts as often as it is met; a slice's spare places count too). A statement '..UptoSaid' is the law's where the arguments, and the package variables that the reading takes, are together of bulk at most 1048576: NARROWER than '..Said'. Prove '..Said' where nothing that the law and all that it calls make is longer than what came in: it says more and counts as full. Else prove '..UptoSaid'. A law counts once. -/
mutual
def uptoBulk {H : Type} : DataW H → Nat
  | .lit (.string bytes) => bytes.length + 1
  | .lit _ => 1
  | .nil => 1
  | .ptr d => uptoBulk d + 1
  | .slice elems spare => uptoBulkAll elems + uptoBulkAll spare + 1
  | .agg parts => uptoBulkAll parts + 1
  | .iface _ d => uptoBulk d + 1
  | .map entries => uptoBulkEntries entries + 1
  | .held _ => 1
def uptoBulkAll {H : Type} : List (DataW H) → Nat
  | [] => 0
  | d :: r => uptoBulk d + uptoBulkAll r
def uptoBulkEntries {H : Type} : List (Lit × DataW H) → Nat
  | [] => 0
  | x :: r => uptoBulkEntry x + uptoBulkEntries r
def uptoBulkEntry {H : Type} : Lit × DataW H → Nat
  | (.string bytes, d) => bytes.length + uptoBulk d + 1
  | (_, d) => uptoBulk d + 1
 end
def uptoSmall : (H : Type) → List (DataW H) → Bool := fun _ ds => decide (uptoBulkAll ds ≤ 1048576)
def OpenSpec.upto (s : _root_.Go.ChangeSpec) : _root_.Go.OpenSpec := { _root_.Go.OpenSpec.ofChange s with cond := some uptoSmall }

/-- 'laws.FnExactPeakBetween', WHERE WHAT IT READS IS OF BULK AT MOST 1048576: true; the input reads as it did. -/
def fnExactPeakBetweenUptoRow : OpenClaim := { program := "ytcpcfgdncinpgaa", sum := "e740d12497240037e45c6297154fb0d65adb1f62daa447ef031c16cb2eb328a1", func := "loop.example/g01170/laws.FnExactPeakBetween", spec := "fnExactPeakBetween", inPlace := ["math.Float32bits", "math.Float32frombits"], unfollowed := true, recurses := true, apart := false, narrowed := true }
def FnExactPeakBetweenUptoSaid : Prop := fnExactPeakBetweenUptoRow.holds Try.pinned (OpenSpec.upto fnExactPeakBetweenSpec)

/-- 'laws.FnExactClippedRuns', WHERE WHAT IT READS IS OF BULK AT MOST 1048576: true; the input reads as it did. -/
def fnExactClippedRunsUptoRow : OpenClaim := { program := "ytcpcfgdncinpgaa", sum := "e740d12497240037e45c6297154fb0d65adb1f62daa447ef031c16cb2eb328a1", func := "loop.example/g01170/laws.FnExactClippedRuns", spec := "fnExactClippedRuns", inPlace := ["math.Float32bits", "math.Float32frombits"], unfollowed := true, recurses := true, apart := false, narrowed := true }
def FnExactClippedRunsUptoSaid : Prop := fnExactClippedRunsUptoRow.holds Try.pinned (OpenSpec.upto fnExactClippedRunsSpec)

/-- 'laws.FnExactCrossingsOf', WHERE WHAT IT READS IS OF BULK AT MOST 1048576: true; the input reads as it did. -/
def fnExactCrossingsOfUptoRow : OpenClaim := { program := "ytcpcfgdncinpgaa", sum := "e740d12497240037e45c6297154fb0d65adb1f62daa447ef031c16cb2eb328a1", func := "loop.example/g01170/laws.FnExactCrossingsOf", spec := "fnExactCrossingsOf", unfollowed := true, recurses := true, apart := false, narrowed := true }
def FnExactCrossingsOfUptoSaid : Prop := fnExactCrossingsOfUptoRow.holds Try.pinned (OpenSpec.upto fnExactCrossingsOfSpec)

/-- 'laws.FnExactLagPower', WHERE WHAT IT READS IS OF BULK AT MOST 1048576: true; the input reads as it did. -/
def fnExactLagPowerUptoRow : OpenClaim := { program := "ytcpcfgdncinpgaa", sum := "e740d12497240037e45c6297154fb0d65adb1f62daa447ef031c16cb2eb328a1", func := "loop.example/g01170/laws.FnExactLagPower", spec := "fnExactLagPower", apart := false, narrowed := true }
def FnExactLagPowerUptoSaid : Prop := fnExactLagPowerUptoRow.holds Try.pinned (OpenSpec.upto fnExactLagPowerSpec)

/-- 'laws.FnExactWindowPowers', WHERE WHAT IT READS IS OF BULK AT MOST 1048576: true; the input reads as it did. -/
def fnExactWindowPowersUptoRow : OpenClaim := { program := "ytcpcfgdncinpgaa", sum := "e740d12497240037e45c6297154fb0d65adb1f62daa447ef031c16cb2eb328a1", func := "loop.example/g01170/laws.FnExactWindowPowers", spec := "fnExactWindowPowers", unfollowed := true, recurses := true, apart := false, narrowed := true }
def FnExactWindowPowersUptoSaid : Prop := fnExactWindowPowersUptoRow.holds Try.pinned (OpenSpec.upto fnExactWindowPowersSpec)

/-- 'laws.FnExactLoudnessOf', WHERE WHAT IT READS IS OF BULK AT MOST 1048576: true; the input reads as it did. -/
def fnExactLoudnessOfUptoRow : OpenClaim := { program := "ytcpcfgdncinpgaa", sum := "e740d12497240037e45c6297154fb0d65adb1f62daa447ef031c16cb2eb328a1", func := "loop.example/g01170/laws.FnExactLoudnessOf", spec := "fnExactLoudnessOf", unfollowed := true, recurses := true, apart := false, narrowed := true }
def FnExactLoudnessOfUptoSaid : Prop := fnExactLoudnessOfUptoRow.holds Try.pinned (OpenSpec.upto fnExactLoudnessOfSpec)

/-- 'laws.FnExactTenthsOf', WHERE WHAT IT READS IS OF BULK AT MOST 1048576: true; the input reads as it did. -/
def fnExactTenthsOfUptoRow : OpenClaim := { program := "ytcpcfgdncinpgaa", sum := "e740d12497240037e45c6297154fb0d65adb1f62daa447ef031c16cb2eb328a1", func := "loop.example/g01170/laws.FnExactTenthsOf", spec := "fnExactTenthsOf", inPlace := ["math.Float64frombits", "math.Float64bits", "math.RoundToEven", "math.Float32bits"], apart := false, narrowed := true }
def FnExactTenthsOfUptoSaid : Prop := fnExactTenthsOfUptoRow.holds Try.pinned (OpenSpec.upto fnExactTenthsOfSpec)

/-- 'laws.FnExactLikenessOf', WHERE WHAT IT READS IS OF BULK AT MOST 1048576: true; the input reads as it did. -/
def fnExactLikenessOfUptoRow : OpenClaim := { program := "ytcpcfgdncinpgaa", sum := "e740d12497240037e45c6297154fb0d65adb1f62daa447ef031c16cb2eb328a1", func := "loop.example/g01170/laws.FnExactLikenessOf", spec := "fnExactLikenessOf", inPlace := ["math.sqrt"], unfollowed := true, recurses := true, apart := false, narrowed := true }
def FnExactLikenessOfUptoSaid : Prop := fnExactLikenessOfUptoRow.holds Try.pinned (OpenSpec.upto fnExactLikenessOfSpec)

/-- 'laws.FnExactBalanceOf', WHERE WHAT IT READS IS OF BULK AT MOST 1048576: true; the input reads as it did. -/
def fnExactBalanceOfUptoRow : OpenClaim := { program := "ytcpcfgdncinpgaa", sum := "e740d12497240037e45c6297154fb0d65adb1f62daa447ef031c16cb2eb328a1", func := "loop.example/g01170/laws.FnExactBalanceOf", spec := "fnExactBalanceOf", inPlace := ["math.sqrt"], unfollowed := true, recurses := true, apart := false, narrowed := true }
def FnExactBalanceOfUptoSaid : Prop := fnExactBalanceOfUptoRow.holds Try.pinned (OpenSpec.upto fnExactBalanceOfSpec)

/-- 'laws.FnExactSpreadOf', WHERE WHAT IT READS IS OF BULK AT MOST 1048576: true; the input reads as it did. -/
def fnExactSpreadOfUptoRow : OpenClaim := { program := "ytcpcfgdncinpgaa", sum := "e740d12497240037e45c6297154fb0d65adb1f62daa447ef031c16cb2eb328a1", func := "loop.example/g01170/laws.FnExactSpreadOf", spec := "fnExactSpreadOf", apart := false, narrowed := true }
def FnExactSpreadOfUptoSaid : Prop := fnExactSpreadOfUptoRow.holds Try.pinned (OpenSpec.upto fnExactSpreadOfSpec)

/-- 'laws.FnExactHoldPeaks', WHERE WHAT IT READS IS OF BULK AT MOST 1048576: true; the input reads as it did. -/
def fnExactHoldPeaksUptoRow : OpenClaim := { program := "ytcpcfgdncinpgaa", sum := "e740d12497240037e45c6297154fb0d65adb1f62daa447ef031c16cb2eb328a1", func := "loop.example/g01170/laws.FnExactHoldPeaks", spec := "fnExactHoldPeaks", inPlace := ["math.Float32bits", "math.Float32frombits"], unfollowed := true, recurses := true, apart := false, narrowed := true }
def FnExactHoldPeaksUptoSaid : Prop := fnExactHoldPeaksUptoRow.holds Try.pinned (OpenSpec.upto fnExactHoldPeaksSpec)

/-- 'laws.FnExactPeakOf', WHERE WHAT IT READS IS OF BULK AT MOST 1048576: true; the input reads as it did. -/
def fnExactPeakOfUptoRow : OpenClaim := { program := "ytcpcfgdncinpgaa", sum := "e740d12497240037e45c6297154fb0d65adb1f62daa447ef031c16cb2eb328a1", func := "loop.example/g01170/laws.FnExactPeakOf", spec := "fnExactPeakOf", inPlace := ["math.Float32bits", "math.Float32frombits"], apart := false, narrowed := true }
def FnExactPeakOfUptoSaid : Prop := fnExactPeakOfUptoRow.holds Try.pinned (OpenSpec.upto fnExactPeakOfSpec)

end Rows
end Go.Proofs.Ytcpcfgdncinpgaa
