/-
  No cell of these rows narrows 'for every input' (looked for: loops, veiled, ifaces, maps, wideKeys, modest, calm, conditions, laid).
  DERIVED. THE GIVEN ROWS OF THIS SEAT. 12 by the template 'for every input the law returns true; each argument reads behind the call as it read before'; 0 by the template 'total and deterministic' (their statements: YtleioidlihpjgaaTotals.lean).
  GIVEN WITH THE SEED: the statements are not yours to turn. If you find one false, say at which input.
  Laid BY PROGRAM, IN A SANDBOX (cutbox-rows.mjs): the forced cells as the released guide's own fill.sh prints them over the translation 14ff5dc8c60e1c8c… (all of the seat's roots in one cut). By AI agents, Wed Nov 11 2026. No macro, syntax, notation, axiom, sorry.
-/
import Derived.Test.YtleioidlihpjgaaChecked
import GoSem.Claim
import GoSem.ClaimJoined
import GoSem.ClaimMapViews
import Derived.JoinedTies
import Derived.KernelRfl
namespace Go.Proofs.Ytleioidlihpjgaa
/- THE CELL 'sum', in the pinned program and in every row, IS THE sha256 OF THE DUMP (.gsa) THAT YtleioidlihpjgaaProg.lean LOADS. Nothing in Lean hashes anything: it is a label: what it is worth is what the hold of that sum in a sandbox is worth. -/
noncomputable def Try.pinned : Pinned := { name := "ytleioidlihpjgaa", sum := "14ff5dc8c60e1c8c115a72a881de99a1d311c5dfd3647114773043dc38f11660", checked := Try.checked }
namespace Rows
def none {H : Type} : Left H := { results := [], args := [] }

/-- 'laws.FnExactFilterStep': WHATEVER THE INPUT: true; the input reads as it did. -/
def fnExactFilterStepSpec : ChangeSpec := { name := "fnExactFilterStep", fn := fun _ => fun
  | [d1, d2, d3, d4, d5] => { results := [.lit (.bool true)], args := [d1, d2, d3, d4, d5] }
  | _ => none }
def fnExactFilterStepRow : OpenClaim := { program := "ytleioidlihpjgaa", sum := "14ff5dc8c60e1c8c115a72a881de99a1d311c5dfd3647114773043dc38f11660", func := "loop.example/g01170/laws.FnExactFilterStep", spec := "fnExactFilterStep", inPlace := ["math.Float32bits", "math.Float32frombits"], unfollowed := true, recurses := true, apart := false }
def FnExactFilterStepSaid : Prop := fnExactFilterStepRow.holds Try.pinned (OpenSpec.ofChange fnExactFilterStepSpec)

/-- ITS FALSE NEIGHBOUR: 'it returns false'. Refute it at one input. -/
def fnExactFilterStepWrong : ChangeSpec := { name := "fnExactFilterStep", fn := fun _ => fun
  | [d1, d2, d3, d4, d5] => { results := [.lit (.bool false)], args := [d1, d2, d3, d4, d5] }
  | _ => none }
def FnExactFilterStepWrongFalsely : Prop := fnExactFilterStepRow.holds Try.pinned (OpenSpec.ofChange fnExactFilterStepWrong)

/-- 'laws.FnExactRunFilter': WHATEVER THE INPUT: true; the input reads as it did. -/
def fnExactRunFilterSpec : ChangeSpec := { name := "fnExactRunFilter", fn := fun _ => fun
  | [d1, d2, d3, d4, d5] => { results := [.lit (.bool true)], args := [d1, d2, d3, d4, d5] }
  | _ => none }
def fnExactRunFilterRow : OpenClaim := { program := "ytleioidlihpjgaa", sum := "14ff5dc8c60e1c8c115a72a881de99a1d311c5dfd3647114773043dc38f11660", func := "loop.example/g01170/laws.FnExactRunFilter", spec := "fnExactRunFilter", inPlace := ["math.Float32bits", "math.Float32frombits"], unfollowed := true, recurses := true, apart := false }
def FnExactRunFilterSaid : Prop := fnExactRunFilterRow.holds Try.pinned (OpenSpec.ofChange fnExactRunFilterSpec)

/-- ITS FALSE NEIGHBOUR: 'it returns false'. Refute it at one input. -/
def fnExactRunFilterWrong : ChangeSpec := { name := "fnExactRunFilter", fn := fun _ => fun
  | [d1, d2, d3, d4, d5] => { results := [.lit (.bool false)], args := [d1, d2, d3, d4, d5] }
  | _ => none }
def FnExactRunFilterWrongFalsely : Prop := fnExactRunFilterRow.holds Try.pinned (OpenSpec.ofChange fnExactRunFilterWrong)

/-- 'laws.FnExactRunFilters': WHATEVER THE INPUT: true; the input reads as it did. -/
def fnExactRunFiltersSpec : ChangeSpec := { name := "fnExactRunFilters", fn := fun _ => fun
  | [d1, d2, d3, d4, d5] => { results := [.lit (.bool true)], args := [d1, d2, d3, d4, d5] }
  | _ => none }
def fnExactRunFiltersRow : OpenClaim := { program := "ytleioidlihpjgaa", sum := "14ff5dc8c60e1c8c115a72a881de99a1d311c5dfd3647114773043dc38f11660", func := "loop.example/g01170/laws.FnExactRunFilters", spec := "fnExactRunFilters", inPlace := ["math.Float32bits", "math.Float32frombits"], unfollowed := true, recurses := true, apart := false }
def FnExactRunFiltersSaid : Prop := fnExactRunFiltersRow.holds Try.pinned (OpenSpec.ofChange fnExactRunFiltersSpec)

/-- ITS FALSE NEIGHBOUR: 'it returns false'. Refute it at one input. -/
def fnExactRunFiltersWrong : ChangeSpec := { name := "fnExactRunFilters", fn := fun _ => fun
  | [d1, d2, d3, d4, d5] => { results := [.lit (.bool false)], args := [d1, d2, d3, d4, d5] }
  | _ => none }
def FnExactRunFiltersWrongFalsely : Prop := fnExactRunFiltersRow.holds Try.pinned (OpenSpec.ofChange fnExactRunFiltersWrong)

/-- 'laws.FnExactImpulseOf': WHATEVER THE INPUT: true; the input reads as it did. -/
def fnExactImpulseOfSpec : ChangeSpec := { name := "fnExactImpulseOf", fn := fun _ => fun
  | [d1, d2, d3] => { results := [.lit (.bool true)], args := [d1, d2, d3] }
  | _ => none }
def fnExactImpulseOfRow : OpenClaim := { program := "ytleioidlihpjgaa", sum := "14ff5dc8c60e1c8c115a72a881de99a1d311c5dfd3647114773043dc38f11660", func := "loop.example/g01170/laws.FnExactImpulseOf", spec := "fnExactImpulseOf", inPlace := ["math.Float32bits", "math.Float32frombits"], unfollowed := true, recurses := true, apart := false }
def FnExactImpulseOfSaid : Prop := fnExactImpulseOfRow.holds Try.pinned (OpenSpec.ofChange fnExactImpulseOfSpec)

/-- ITS FALSE NEIGHBOUR: 'it returns false'. Refute it at one input. -/
def fnExactImpulseOfWrong : ChangeSpec := { name := "fnExactImpulseOf", fn := fun _ => fun
  | [d1, d2, d3] => { results := [.lit (.bool false)], args := [d1, d2, d3] }
  | _ => none }
def FnExactImpulseOfWrongFalsely : Prop := fnExactImpulseOfRow.holds Try.pinned (OpenSpec.ofChange fnExactImpulseOfWrong)

/-- 'laws.FnExactIsStable': WHATEVER THE INPUT: true; the input reads as it did. -/
def fnExactIsStableSpec : ChangeSpec := { name := "fnExactIsStable", fn := fun _ => fun
  | [d] => { results := [.lit (.bool true)], args := [d] }
  | _ => none }
def fnExactIsStableRow : OpenClaim := { program := "ytleioidlihpjgaa", sum := "14ff5dc8c60e1c8c115a72a881de99a1d311c5dfd3647114773043dc38f11660", func := "loop.example/g01170/laws.FnExactIsStable", spec := "fnExactIsStable", inPlace := ["math.Float64bits", "math.Float64frombits", "math.Float32bits", "math.Float32frombits"], apart := false }
def FnExactIsStableSaid : Prop := fnExactIsStableRow.holds Try.pinned (OpenSpec.ofChange fnExactIsStableSpec)

/-- ITS FALSE NEIGHBOUR: 'it returns false'. Refute it at one input. -/
def fnExactIsStableWrong : ChangeSpec := { name := "fnExactIsStable", fn := fun _ => fun
  | [d] => { results := [.lit (.bool false)], args := [d] }
  | _ => none }
def FnExactIsStableWrongFalsely : Prop := fnExactIsStableRow.holds Try.pinned (OpenSpec.ofChange fnExactIsStableWrong)

/-- 'laws.FnExactLevelOfFilter': WHATEVER THE INPUT: true; the input reads as it did. -/
def fnExactLevelOfFilterSpec : ChangeSpec := { name := "fnExactLevelOfFilter", fn := fun _ => fun
  | [d] => { results := [.lit (.bool true)], args := [d] }
  | _ => none }
def fnExactLevelOfFilterRow : OpenClaim := { program := "ytleioidlihpjgaa", sum := "14ff5dc8c60e1c8c115a72a881de99a1d311c5dfd3647114773043dc38f11660", func := "loop.example/g01170/laws.FnExactLevelOfFilter", spec := "fnExactLevelOfFilter", apart := false }
def FnExactLevelOfFilterSaid : Prop := fnExactLevelOfFilterRow.holds Try.pinned (OpenSpec.ofChange fnExactLevelOfFilterSpec)

/-- ITS FALSE NEIGHBOUR: 'it returns false'. Refute it at one input. -/
def fnExactLevelOfFilterWrong : ChangeSpec := { name := "fnExactLevelOfFilter", fn := fun _ => fun
  | [d] => { results := [.lit (.bool false)], args := [d] }
  | _ => none }
def FnExactLevelOfFilterWrongFalsely : Prop := fnExactLevelOfFilterRow.holds Try.pinned (OpenSpec.ofChange fnExactLevelOfFilterWrong)

/-- 'laws.FnExactSmoothFilter': WHATEVER THE INPUT: true; the input reads as it did. -/
def fnExactSmoothFilterSpec : ChangeSpec := { name := "fnExactSmoothFilter", fn := fun _ => fun
  | [d] => { results := [.lit (.bool true)], args := [d] }
  | _ => none }
def fnExactSmoothFilterRow : OpenClaim := { program := "ytleioidlihpjgaa", sum := "14ff5dc8c60e1c8c115a72a881de99a1d311c5dfd3647114773043dc38f11660", func := "loop.example/g01170/laws.FnExactSmoothFilter", spec := "fnExactSmoothFilter", apart := false }
def FnExactSmoothFilterSaid : Prop := fnExactSmoothFilterRow.holds Try.pinned (OpenSpec.ofChange fnExactSmoothFilterSpec)

/-- ITS FALSE NEIGHBOUR: 'it returns false'. Refute it at one input. -/
def fnExactSmoothFilterWrong : ChangeSpec := { name := "fnExactSmoothFilter", fn := fun _ => fun
  | [d] => { results := [.lit (.bool false)], args := [d] }
  | _ => none }
def FnExactSmoothFilterWrongFalsely : Prop := fnExactSmoothFilterRow.holds Try.pinned (OpenSpec.ofChange fnExactSmoothFilterWrong)

/-- 'laws.FnExactScaleFilter': WHATEVER THE INPUT: true; the input reads as it did. -/
def fnExactScaleFilterSpec : ChangeSpec := { name := "fnExactScaleFilter", fn := fun _ => fun
  | [d1, d2] => { results := [.lit (.bool true)], args := [d1, d2] }
  | _ => none }
def fnExactScaleFilterRow : OpenClaim := { program := "ytleioidlihpjgaa", sum := "14ff5dc8c60e1c8c115a72a881de99a1d311c5dfd3647114773043dc38f11660", func := "loop.example/g01170/laws.FnExactScaleFilter", spec := "fnExactScaleFilter", apart := false }
def FnExactScaleFilterSaid : Prop := fnExactScaleFilterRow.holds Try.pinned (OpenSpec.ofChange fnExactScaleFilterSpec)

/-- ITS FALSE NEIGHBOUR: 'it returns false'. Refute it at one input. -/
def fnExactScaleFilterWrong : ChangeSpec := { name := "fnExactScaleFilter", fn := fun _ => fun
  | [d1, d2] => { results := [.lit (.bool false)], args := [d1, d2] }
  | _ => none }
def FnExactScaleFilterWrongFalsely : Prop := fnExactScaleFilterRow.holds Try.pinned (OpenSpec.ofChange fnExactScaleFilterWrong)

/-- 'laws.FnExactRestAfter': WHATEVER THE INPUT: true; the input reads as it did. -/
def fnExactRestAfterSpec : ChangeSpec := { name := "fnExactRestAfter", fn := fun _ => fun
  | [d1, d2, d3, d4] => { results := [.lit (.bool true)], args := [d1, d2, d3, d4] }
  | _ => none }
def fnExactRestAfterRow : OpenClaim := { program := "ytleioidlihpjgaa", sum := "14ff5dc8c60e1c8c115a72a881de99a1d311c5dfd3647114773043dc38f11660", func := "loop.example/g01170/laws.FnExactRestAfter", spec := "fnExactRestAfter", inPlace := ["math.Float32bits", "math.Float32frombits"], unfollowed := true, recurses := true, apart := false }
def FnExactRestAfterSaid : Prop := fnExactRestAfterRow.holds Try.pinned (OpenSpec.ofChange fnExactRestAfterSpec)

/-- ITS FALSE NEIGHBOUR: 'it returns false'. Refute it at one input. -/
def fnExactRestAfterWrong : ChangeSpec := { name := "fnExactRestAfter", fn := fun _ => fun
  | [d1, d2, d3, d4] => { results := [.lit (.bool false)], args := [d1, d2, d3, d4] }
  | _ => none }
def FnExactRestAfterWrongFalsely : Prop := fnExactRestAfterRow.holds Try.pinned (OpenSpec.ofChange fnExactRestAfterWrong)

/-- 'laws.FnExactFilterBothWays': WHATEVER THE INPUT: true; the input reads as it did. -/
def fnExactFilterBothWaysSpec : ChangeSpec := { name := "fnExactFilterBothWays", fn := fun _ => fun
  | [d1, d2] => { results := [.lit (.bool true)], args := [d1, d2] }
  | _ => none }
def fnExactFilterBothWaysRow : OpenClaim := { program := "ytleioidlihpjgaa", sum := "14ff5dc8c60e1c8c115a72a881de99a1d311c5dfd3647114773043dc38f11660", func := "loop.example/g01170/laws.FnExactFilterBothWays", spec := "fnExactFilterBothWays", inPlace := ["math.Float32bits", "math.Float32frombits"], unfollowed := true, recurses := true, apart := false }
def FnExactFilterBothWaysSaid : Prop := fnExactFilterBothWaysRow.holds Try.pinned (OpenSpec.ofChange fnExactFilterBothWaysSpec)

/-- ITS FALSE NEIGHBOUR: 'it returns false'. Refute it at one input. -/
def fnExactFilterBothWaysWrong : ChangeSpec := { name := "fnExactFilterBothWays", fn := fun _ => fun
  | [d1, d2] => { results := [.lit (.bool false)], args := [d1, d2] }
  | _ => none }
def FnExactFilterBothWaysWrongFalsely : Prop := fnExactFilterBothWaysRow.holds Try.pinned (OpenSpec.ofChange fnExactFilterBothWaysWrong)

/-- 'laws.FnExactSameMemory': WHATEVER THE INPUT: true; the input reads as it did. -/
def fnExactSameMemorySpec : ChangeSpec := { name := "fnExactSameMemory", fn := fun _ => fun
  | [d1, d2] => { results := [.lit (.bool true)], args := [d1, d2] }
  | _ => none }
def fnExactSameMemoryRow : OpenClaim := { program := "ytleioidlihpjgaa", sum := "14ff5dc8c60e1c8c115a72a881de99a1d311c5dfd3647114773043dc38f11660", func := "loop.example/g01170/laws.FnExactSameMemory", spec := "fnExactSameMemory", inPlace := ["math.Float32bits"], apart := false }
def FnExactSameMemorySaid : Prop := fnExactSameMemoryRow.holds Try.pinned (OpenSpec.ofChange fnExactSameMemorySpec)

/-- ITS FALSE NEIGHBOUR: 'it returns false'. Refute it at one input. -/
def fnExactSameMemoryWrong : ChangeSpec := { name := "fnExactSameMemory", fn := fun _ => fun
  | [d1, d2] => { results := [.lit (.bool false)], args := [d1, d2] }
  | _ => none }
def FnExactSameMemoryWrongFalsely : Prop := fnExactSameMemoryRow.holds Try.pinned (OpenSpec.ofChange fnExactSameMemoryWrong)

/-- 'laws.FnStable': WHATEVER THE INPUT: true; the input reads as it did. -/
def fnStableSpec : ChangeSpec := { name := "fnStable", fn := fun _ => fun
  | [d1, d2] => { results := [.lit (.bool true)], args := [d1, d2] }
  | _ => none }
def fnStableRow : OpenClaim := { program := "ytleioidlihpjgaa", sum := "14ff5dc8c60e1c8c115a72a881de99a1d311c5dfd3647114773043dc38f11660", func := "loop.example/g01170/laws.FnStable", spec := "fnStable", inPlace := ["math.Float32bits", "math.Float32frombits"], unfollowed := true, recurses := true, apart := false }
def FnStableSaid : Prop := fnStableRow.holds Try.pinned (OpenSpec.ofChange fnStableSpec)

/-- ITS FALSE NEIGHBOUR: 'it returns false'. Refute it at one input. -/
def fnStableWrong : ChangeSpec := { name := "fnStable", fn := fun _ => fun
  | [d1, d2] => { results := [.lit (.bool false)], args := [d1, d2] }
  | _ => none }
def FnStableWrongFalsely : Prop := fnStableRow.holds Try.pinned (OpenSpec.ofChange fnStableWrong)

/- THE SECOND FORM. 'bulk': how many values and letters a reading holds, each counted each time it is reached (what is shared counts as often as it is met; a slice's spare places count too). A statement '..UptoSaid' is the law's where the arguments, and the package variables that the reading takes, are together of bulk at most 1048576: NARROWER than '..Said'. Prove '..Said' where nothing that the law and all that it calls make is longer than what came in: it says more and counts as full. Else prove '..UptoSaid'. A law counts once. -/
mutual
def uptoBulk {H : Type} : DataW H → Nat
  | .lit (.string bytes) => bytes.length + 1
  | .lit _ => 1
  | .nil => 1
  | .ptr d => uptoBulk d + 1
  | .slice elems spare => uptoBulkAll elems + uptoBulkAll spare + 1
  | .agg parts => uptoBulkAll parts + 1
  | .iface _ d => uptoBulk d + 1
  | .map entries => uptoBulkEntries entries + 1
  | .held _ => 1
def uptoBulkAll {H : Type} : List (DataW H) → Nat
  | [] => 0
  | d :: r => uptoBulk d + uptoBulkAll r
def uptoBulkEntries {H : Type} : List (Lit × DataW H) → Nat
  | [] => 0
  | x :: r => uptoBulkEntry x + uptoBulkEntries r
def uptoBulkEntry {H : Type} : Lit × DataW H → Nat
  | (.string bytes, d) => bytes.length + uptoBulk d + 1
  | (_, d) => uptoBulk d + 1
 end
def uptoSmall : (H : Type) → List (DataW H) → Bool := fun _ ds => decide (uptoBulkAll ds ≤ 1048576)
def OpenSpec.upto (s : _root_.Go.ChangeSpec) : _root_.Go.OpenSpec := { _root_.Go.OpenSpec.ofChange s with cond := some uptoSmall }

/-- 'laws.FnExactFilterStep', WHERE WHAT IT READS IS OF BULK AT MOST 1048576: true; the input reads as it did. -/
def fnExactFilterStepUptoRow : OpenClaim := { program := "ytleioidlihpjgaa", sum := "14ff5dc8c60e1c8c115a72a881de99a1d311c5dfd3647114773043dc38f11660", func := "loop.example/g01170/laws.FnExactFilterStep", spec := "fnExactFilterStep", inPlace := ["math.Float32bits", "math.Float32frombits"], unfollowed := true, recurses := true, apart := false, narrowed := true }
def FnExactFilterStepUptoSaid : Prop := fnExactFilterStepUptoRow.holds Try.pinned (OpenSpec.upto fnExactFilterStepSpec)

/-- 'laws.FnExactRunFilter', WHERE WHAT IT READS IS OF BULK AT MOST 1048576: true; the input reads as it did. -/
def fnExactRunFilterUptoRow : OpenClaim := { program := "ytleioidlihpjgaa", sum := "14ff5dc8c60e1c8c115a72a881de99a1d311c5dfd3647114773043dc38f11660", func := "loop.example/g01170/laws.FnExactRunFilter", spec := "fnExactRunFilter", inPlace := ["math.Float32bits", "math.Float32frombits"], unfollowed := true, recurses := true, apart := false, narrowed := true }
def FnExactRunFilterUptoSaid : Prop := fnExactRunFilterUptoRow.holds Try.pinned (OpenSpec.upto fnExactRunFilterSpec)

/-- 'laws.FnExactRunFilters', WHERE WHAT IT READS IS OF BULK AT MOST 1048576: true; the input reads as it did. -/
def fnExactRunFiltersUptoRow : OpenClaim := { program := "ytleioidlihpjgaa", sum := "14ff5dc8c60e1c8c115a72a881de99a1d311c5dfd3647114773043dc38f11660", func := "loop.example/g01170/laws.FnExactRunFilters", spec := "fnExactRunFilters", inPlace := ["math.Float32bits", "math.Float32frombits"], unfollowed := true, recurses := true, apart := false, narrowed := true }
def FnExactRunFiltersUptoSaid : Prop := fnExactRunFiltersUptoRow.holds Try.pinned (OpenSpec.upto fnExactRunFiltersSpec)

/-- 'laws.FnExactImpulseOf', WHERE WHAT IT READS IS OF BULK AT MOST 1048576: true; the input reads as it did. -/
def fnExactImpulseOfUptoRow : OpenClaim := { program := "ytleioidlihpjgaa", sum := "14ff5dc8c60e1c8c115a72a881de99a1d311c5dfd3647114773043dc38f11660", func := "loop.example/g01170/laws.FnExactImpulseOf", spec := "fnExactImpulseOf", inPlace := ["math.Float32bits", "math.Float32frombits"], unfollowed := true, recurses := true, apart := false, narrowed := true }
def FnExactImpulseOfUptoSaid : Prop := fnExactImpulseOfUptoRow.holds Try.pinned (OpenSpec.upto fnExactImpulseOfSpec)

/-- 'laws.FnExactIsStable', WHERE WHAT IT READS IS OF BULK AT MOST 1048576: true; the input reads as it did. -/
def fnExactIsStableUptoRow : OpenClaim := { program := "ytleioidlihpjgaa", sum := "14ff5dc8c60e1c8c115a72a881de99a1d311c5dfd3647114773043dc38f11660", func := "loop.example/g01170/laws.FnExactIsStable", spec := "fnExactIsStable", inPlace := ["math.Float64bits", "math.Float64frombits", "math.Float32bits", "math.Float32frombits"], apart := false, narrowed := true }
def FnExactIsStableUptoSaid : Prop := fnExactIsStableUptoRow.holds Try.pinned (OpenSpec.upto fnExactIsStableSpec)

/-- 'laws.FnExactLevelOfFilter', WHERE WHAT IT READS IS OF BULK AT MOST 1048576: true; the input reads as it did. -/
def fnExactLevelOfFilterUptoRow : OpenClaim := { program := "ytleioidlihpjgaa", sum := "14ff5dc8c60e1c8c115a72a881de99a1d311c5dfd3647114773043dc38f11660", func := "loop.example/g01170/laws.FnExactLevelOfFilter", spec := "fnExactLevelOfFilter", apart := false, narrowed := true }
def FnExactLevelOfFilterUptoSaid : Prop := fnExactLevelOfFilterUptoRow.holds Try.pinned (OpenSpec.upto fnExactLevelOfFilterSpec)

/-- 'laws.FnExactSmoothFilter', WHERE WHAT IT READS IS OF BULK AT MOST 1048576: true; the input reads as it did. -/
def fnExactSmoothFilterUptoRow : OpenClaim := { program := "ytleioidlihpjgaa", sum := "14ff5dc8c60e1c8c115a72a881de99a1d311c5dfd3647114773043dc38f11660", func := "loop.example/g01170/laws.FnExactSmoothFilter", spec := "fnExactSmoothFilter", apart := false, narrowed := true }
def FnExactSmoothFilterUptoSaid : Prop := fnExactSmoothFilterUptoRow.holds Try.pinned (OpenSpec.upto fnExactSmoothFilterSpec)

/-- 'laws.FnExactScaleFilter', WHERE WHAT IT READS IS OF BULK AT MOST 1048576: true; the input reads as it did. -/
def fnExactScaleFilterUptoRow : OpenClaim := { program := "ytleioidlihpjgaa", sum := "14ff5dc8c60e1c8c115a72a881de99a1d311c5dfd3647114773043dc38f11660", func := "loop.example/g01170/laws.FnExactScaleFilter", spec := "fnExactScaleFilter", apart := false, narrowed := true }
def FnExactScaleFilterUptoSaid : Prop := fnExactScaleFilterUptoRow.holds Try.pinned (OpenSpec.upto fnExactScaleFilterSpec)

/-- 'laws.FnExactRestAfter', WHERE WHAT IT READS IS OF BULK AT MOST 1048576: true; the input reads as it did. -/
def fnExactRestAfterUptoRow : OpenClaim := { program := "ytleioidlihpjgaa", sum := "14ff5dc8c60e1c8c115a72a881de99a1d311c5dfd3647114773043dc38f11660", func := "loop.example/g01170/laws.FnExactRestAfter", spec := "fnExactRestAfter", inPlace := ["math.Float32bits", "math.Float32frombits"], unfollowed := true, recurses := true, apart := false, narrowed := true }
def FnExactRestAfterUptoSaid : Prop := fnExactRestAfterUptoRow.holds Try.pinned (OpenSpec.upto fnExactRestAfterSpec)

/-- 'laws.FnExactFilterBothWays', WHERE WHAT IT READS IS OF BULK AT MOST 1048576: true; the input reads as it did. -/
def fnExactFilterBothWaysUptoRow : OpenClaim := { program := "ytleioidlihpjgaa", sum := "14ff5dc8c60e1c8c115a72a881de99a1d311c5dfd3647114773043dc38f11660", func := "loop.example/g01170/laws.FnExactFilterBothWays", spec := "fnExactFilterBothWays", inPlace := ["math.Float32bits", "math.Float32frombits"], unfollowed := true, recurses := true, apart := false, narrowed := true }
def FnExactFilterBothWaysUptoSaid : Prop := fnExactFilterBothWaysUptoRow.holds Try.pinned (OpenSpec.upto fnExactFilterBothWaysSpec)

/-- 'laws.FnExactSameMemory', WHERE WHAT IT READS IS OF BULK AT MOST 1048576: true; the input reads as it did. -/
def fnExactSameMemoryUptoRow : OpenClaim := { program := "ytleioidlihpjgaa", sum := "14ff5dc8c60e1c8c115a72a881de99a1d311c5dfd3647114773043dc38f11660", func := "loop.example/g01170/laws.FnExactSameMemory", spec := "fnExactSameMemory", inPlace := ["math.Float32bits"], apart := false, narrowed := true }
def FnExactSameMemoryUptoSaid : Prop := fnExactSameMemoryUptoRow.holds Try.pinned (OpenSpec.upto fnExactSameMemorySpec)

/-- 'laws.FnStable', WHERE WHAT IT READS IS OF BULK AT MOST 1048576: true; the input reads as it did. -/
def fnStableUptoRow : OpenClaim := { program := "ytleioidlihpjgaa", sum := "14ff5dc8c60e1c8c115a72a881de99a1d311c5dfd3647114773043dc38f11660", func := "loop.example/g01170/laws.FnStable", spec := "fnStable", inPlace := ["math.Float32bits", "math.Float32frombits"], unfollowed := true, recurses := true, apart := false, narrowed := true }
def FnStableUptoSaid : Prop := fnStableUptoRow.holds Try.pinned (OpenSpec.upto fnStableSpec)

end Rows
end Go.Proofs.Ytleioidlihpjgaa
