/-
  No cell of these rows narrows 'for every input' (looked for: loops, veiled, ifaces, maps, wideKeys, modest, calm, conditions, laid).
  DERIVED. THE GIVEN ROWS OF THIS SEAT. 10 by the template 'for every input the law returns true; each argument reads behind the call as it read before'; 0 by the template 'total and deterministic' (their statements: YtebocaicebolaaaTotals.lean).
  GIVEN WITH THE SEED: the statements are not yours to turn. If you find one false, say at which input.
  Laid BY PROGRAM, IN A SANDBOX (cutbox-rows.mjs): the forced cells as the released guide's own fill.sh prints them over the translation 5195555106aa3cda… (all of the seat's roots in one cut). By AI agents, Wed Nov 11 2026. No macro, syntax, notation, axiom, sorry.
-/
import Derived.Test.YtebocaicebolaaaChecked
import GoSem.Claim
import GoSem.ClaimJoined
import GoSem.ClaimMapViews
import Derived.JoinedTies
import Derived.KernelRfl
namespace Go.Proofs.Ytebocaicebolaaa
/- THE CELL 'sum', in the pinned program and in every row, IS THE sha256 OF THE DUMP (.gsa) THAT YtebocaicebolaaaProg.lean LOADS. Nothing in Lean hashes anything: it is a label: what it is worth is what the hold of that sum in a sandbox is worth. -/
noncomputable def Try.pinned : Pinned := { name := "ytebocaicebolaaa", sum := "5195555106aa3cdae5dca84f449c0a9a54c6871751a3dae1b7f35f8106eac124", checked := Try.checked }
namespace Rows
def none {H : Type} : Left H := { results := [], args := [] }

/-- 'laws.FnExactRunFilter': WHATEVER THE INPUT: true; the input reads as it did. -/
def fnExactRunFilterSpec : ChangeSpec := { name := "fnExactRunFilter", fn := fun _ => fun
  | [d1, d2, d3, d4, d5] => { results := [.lit (.bool true)], args := [d1, d2, d3, d4, d5] }
  | _ => none }
def fnExactRunFilterRow : OpenClaim := { program := "ytebocaicebolaaa", sum := "5195555106aa3cdae5dca84f449c0a9a54c6871751a3dae1b7f35f8106eac124", func := "loop.example/g01170/laws.FnExactRunFilter", spec := "fnExactRunFilter", inPlace := ["math.Float32bits", "math.Float32frombits"], unfollowed := true, recurses := true, apart := false }
def FnExactRunFilterSaid : Prop := fnExactRunFilterRow.holds Try.pinned (OpenSpec.ofChange fnExactRunFilterSpec)

/-- ITS FALSE NEIGHBOUR: 'it returns false'. Refute it at one input. -/
def fnExactRunFilterWrong : ChangeSpec := { name := "fnExactRunFilter", fn := fun _ => fun
  | [d1, d2, d3, d4, d5] => { results := [.lit (.bool false)], args := [d1, d2, d3, d4, d5] }
  | _ => none }
def FnExactRunFilterWrongFalsely : Prop := fnExactRunFilterRow.holds Try.pinned (OpenSpec.ofChange fnExactRunFilterWrong)

/-- 'laws.FnExactImpulseOf': WHATEVER THE INPUT: true; the input reads as it did. -/
def fnExactImpulseOfSpec : ChangeSpec := { name := "fnExactImpulseOf", fn := fun _ => fun
  | [d1, d2, d3] => { results := [.lit (.bool true)], args := [d1, d2, d3] }
  | _ => none }
def fnExactImpulseOfRow : OpenClaim := { program := "ytebocaicebolaaa", sum := "5195555106aa3cdae5dca84f449c0a9a54c6871751a3dae1b7f35f8106eac124", func := "loop.example/g01170/laws.FnExactImpulseOf", spec := "fnExactImpulseOf", inPlace := ["math.Float32bits", "math.Float32frombits"], unfollowed := true, recurses := true, apart := false }
def FnExactImpulseOfSaid : Prop := fnExactImpulseOfRow.holds Try.pinned (OpenSpec.ofChange fnExactImpulseOfSpec)

/-- ITS FALSE NEIGHBOUR: 'it returns false'. Refute it at one input. -/
def fnExactImpulseOfWrong : ChangeSpec := { name := "fnExactImpulseOf", fn := fun _ => fun
  | [d1, d2, d3] => { results := [.lit (.bool false)], args := [d1, d2, d3] }
  | _ => none }
def FnExactImpulseOfWrongFalsely : Prop := fnExactImpulseOfRow.holds Try.pinned (OpenSpec.ofChange fnExactImpulseOfWrong)

/-- 'laws.FnExactFilterBothWays': WHATEVER THE INPUT: true; the input reads as it did. -/
def fnExactFilterBothWaysSpec : ChangeSpec := { name := "fnExactFilterBothWays", fn := fun _ => fun
  | [d1, d2] => { results := [.lit (.bool true)], args := [d1, d2] }
  | _ => none }
def fnExactFilterBothWaysRow : OpenClaim := { program := "ytebocaicebolaaa", sum := "5195555106aa3cdae5dca84f449c0a9a54c6871751a3dae1b7f35f8106eac124", func := "loop.example/g01170/laws.FnExactFilterBothWays", spec := "fnExactFilterBothWays", inPlace := ["math.Float32bits", "math.Float32frombits"], unfollowed := true, recurses := true, apart := false }
def FnExactFilterBothWaysSaid : Prop := fnExactFilterBothWaysRow.holds Try.pinned (OpenSpec.ofChange fnExactFilterBothWaysSpec)

/-- ITS FALSE NEIGHBOUR: 'it returns false'. Refute it at one input. -/
def fnExactFilterBothWaysWrong : ChangeSpec := { name := "fnExactFilterBothWays", fn := fun _ => fun
  | [d1, d2] => { results := [.lit (.bool false)], args := [d1, d2] }
  | _ => none }
def FnExactFilterBothWaysWrongFalsely : Prop := fnExactFilterBothWaysRow.holds Try.pinned (OpenSpec.ofChange fnExactFilterBothWaysWrong)

/-- 'laws.FnExactRestAfter': WHATEVER THE INPUT: true; the input reads as it did. -/
def fnExactRestAfterSpec : ChangeSpec := { name := "fnExactRestAfter", fn := fun _ => fun
  | [d1, d2, d3, d4] => { results := [.lit (.bool true)], args := [d1, d2, d3, d4] }
  | _ => none }
def fnExactRestAfterRow : OpenClaim := { program := "ytebocaicebolaaa", sum := "5195555106aa3cdae5dca84f449c0a9a54c6871751a3dae1b7f35f8106eac124", func := "loop.example/g01170/laws.FnExactRestAfter", spec := "fnExactRestAfter", inPlace := ["math.Float32bits", "math.Float32frombits"], unfollowed := true, recurses := true, apart := false }
def FnExactRestAfterSaid : Prop := fnExactRestAfterRow.holds Try.pinned (OpenSpec.ofChange fnExactRestAfterSpec)

/-- ITS FALSE NEIGHBOUR: 'it returns false'. Refute it at one input. -/
def fnExactRestAfterWrong : ChangeSpec := { name := "fnExactRestAfter", fn := fun _ => fun
  | [d1, d2, d3, d4] => { results := [.lit (.bool false)], args := [d1, d2, d3, d4] }
  | _ => none }
def FnExactRestAfterWrongFalsely : Prop := fnExactRestAfterRow.holds Try.pinned (OpenSpec.ofChange fnExactRestAfterWrong)

/-- 'laws.FnExactRunFilters': WHATEVER THE INPUT: true; the input reads as it did. -/
def fnExactRunFiltersSpec : ChangeSpec := { name := "fnExactRunFilters", fn := fun _ => fun
  | [d1, d2, d3, d4, d5] => { results := [.lit (.bool true)], args := [d1, d2, d3, d4, d5] }
  | _ => none }
def fnExactRunFiltersRow : OpenClaim := { program := "ytebocaicebolaaa", sum := "5195555106aa3cdae5dca84f449c0a9a54c6871751a3dae1b7f35f8106eac124", func := "loop.example/g01170/laws.FnExactRunFilters", spec := "fnExactRunFilters", inPlace := ["math.Float32bits", "math.Float32frombits"], unfollowed := true, recurses := true, apart := false }
def FnExactRunFiltersSaid : Prop := fnExactRunFiltersRow.holds Try.pinned (OpenSpec.ofChange fnExactRunFiltersSpec)

/-- ITS FALSE NEIGHBOUR: 'it returns false'. Refute it at one input. -/
def fnExactRunFiltersWrong : ChangeSpec := { name := "fnExactRunFilters", fn := fun _ => fun
  | [d1, d2, d3, d4, d5] => { results := [.lit (.bool false)], args := [d1, d2, d3, d4, d5] }
  | _ => none }
def FnExactRunFiltersWrongFalsely : Prop := fnExactRunFiltersRow.holds Try.pinned (OpenSpec.ofChange fnExactRunFiltersWrong)

/-- 'laws.FnFilterBlocks': WHATEVER THE INPUT: true; the input reads as it did. -/
def fnFilterBlocksSpec : ChangeSpec := { name := "fnFilterBlocks", fn := fun _ => fun
  | [d1, d2] => { results := [.lit (.bool true)], args := [d1, d2] }
  | _ => none }
def fnFilterBlocksRow : OpenClaim := { program := "ytebocaicebolaaa", sum := "5195555106aa3cdae5dca84f449c0a9a54c6871751a3dae1b7f35f8106eac124", func := "loop.example/g01170/laws.FnFilterBlocks", spec := "fnFilterBlocks", inPlace := ["math.Float32frombits", "math.Float32bits"], unfollowed := true, recurses := true, apart := false }
def FnFilterBlocksSaid : Prop := fnFilterBlocksRow.holds Try.pinned (OpenSpec.ofChange fnFilterBlocksSpec)

/-- ITS FALSE NEIGHBOUR: 'it returns false'. Refute it at one input. -/
def fnFilterBlocksWrong : ChangeSpec := { name := "fnFilterBlocks", fn := fun _ => fun
  | [d1, d2] => { results := [.lit (.bool false)], args := [d1, d2] }
  | _ => none }
def FnFilterBlocksWrongFalsely : Prop := fnFilterBlocksRow.holds Try.pinned (OpenSpec.ofChange fnFilterBlocksWrong)

/-- 'laws.FnFilterRows': WHATEVER THE INPUT: true; the input reads as it did. -/
def fnFilterRowsSpec : ChangeSpec := { name := "fnFilterRows", fn := fun _ => fun
  | [d1, d2] => { results := [.lit (.bool true)], args := [d1, d2] }
  | _ => none }
def fnFilterRowsRow : OpenClaim := { program := "ytebocaicebolaaa", sum := "5195555106aa3cdae5dca84f449c0a9a54c6871751a3dae1b7f35f8106eac124", func := "loop.example/g01170/laws.FnFilterRows", spec := "fnFilterRows", inPlace := ["math.Float32frombits", "math.Float32bits"], unfollowed := true, recurses := true, apart := false }
def FnFilterRowsSaid : Prop := fnFilterRowsRow.holds Try.pinned (OpenSpec.ofChange fnFilterRowsSpec)

/-- ITS FALSE NEIGHBOUR: 'it returns false'. Refute it at one input. -/
def fnFilterRowsWrong : ChangeSpec := { name := "fnFilterRows", fn := fun _ => fun
  | [d1, d2] => { results := [.lit (.bool false)], args := [d1, d2] }
  | _ => none }
def FnFilterRowsWrongFalsely : Prop := fnFilterRowsRow.holds Try.pinned (OpenSpec.ofChange fnFilterRowsWrong)

/-- 'laws.FnStable': WHATEVER THE INPUT: true; the input reads as it did. -/
def fnStableSpec : ChangeSpec := { name := "fnStable", fn := fun _ => fun
  | [d1, d2] => { results := [.lit (.bool true)], args := [d1, d2] }
  | _ => none }
def fnStableRow : OpenClaim := { program := "ytebocaicebolaaa", sum := "5195555106aa3cdae5dca84f449c0a9a54c6871751a3dae1b7f35f8106eac124", func := "loop.example/g01170/laws.FnStable", spec := "fnStable", inPlace := ["math.Float32bits", "math.Float32frombits"], unfollowed := true, recurses := true, apart := false }
def FnStableSaid : Prop := fnStableRow.holds Try.pinned (OpenSpec.ofChange fnStableSpec)

/-- ITS FALSE NEIGHBOUR: 'it returns false'. Refute it at one input. -/
def fnStableWrong : ChangeSpec := { name := "fnStable", fn := fun _ => fun
  | [d1, d2] => { results := [.lit (.bool false)], args := [d1, d2] }
  | _ => none }
def FnStableWrongFalsely : Prop := fnStableRow.holds Try.pinned (OpenSpec.ofChange fnStableWrong)

/-- 'laws.FnForms': WHATEVER THE INPUT: true; the input reads as it did. -/
def fnFormsSpec : ChangeSpec := { name := "fnForms", fn := fun _ => fun
  | [d1, d2] => { results := [.lit (.bool true)], args := [d1, d2] }
  | _ => none }
def fnFormsRow : OpenClaim := { program := "ytebocaicebolaaa", sum := "5195555106aa3cdae5dca84f449c0a9a54c6871751a3dae1b7f35f8106eac124", func := "loop.example/g01170/laws.FnForms", spec := "fnForms", inPlace := ["math.Float32bits", "math.Float32frombits"], unfollowed := true, recurses := true, apart := false }
def FnFormsSaid : Prop := fnFormsRow.holds Try.pinned (OpenSpec.ofChange fnFormsSpec)

/-- ITS FALSE NEIGHBOUR: 'it returns false'. Refute it at one input. -/
def fnFormsWrong : ChangeSpec := { name := "fnForms", fn := fun _ => fun
  | [d1, d2] => { results := [.lit (.bool false)], args := [d1, d2] }
  | _ => none }
def FnFormsWrongFalsely : Prop := fnFormsRow.holds Try.pinned (OpenSpec.ofChange fnFormsWrong)

/-- 'laws.FnRest': WHATEVER THE INPUT: true; the input reads as it did. -/
def fnRestSpec : ChangeSpec := { name := "fnRest", fn := fun _ => fun
  | [d1, d2] => { results := [.lit (.bool true)], args := [d1, d2] }
  | _ => none }
def fnRestRow : OpenClaim := { program := "ytebocaicebolaaa", sum := "5195555106aa3cdae5dca84f449c0a9a54c6871751a3dae1b7f35f8106eac124", func := "loop.example/g01170/laws.FnRest", spec := "fnRest", inPlace := ["math.Float32bits", "math.Float32frombits"], unfollowed := true, recurses := true, apart := false }
def FnRestSaid : Prop := fnRestRow.holds Try.pinned (OpenSpec.ofChange fnRestSpec)

/-- ITS FALSE NEIGHBOUR: 'it returns false'. Refute it at one input. -/
def fnRestWrong : ChangeSpec := { name := "fnRest", fn := fun _ => fun
  | [d1, d2] => { results := [.lit (.bool false)], args := [d1, d2] }
  | _ => none }
def FnRestWrongFalsely : Prop := fnRestRow.holds Try.pinned (OpenSpec.ofChange fnRestWrong)

/- THE SECOND FORM. 'bulk': how many values and letters a reading holds, each counted each time it is reached (what is shared counts as often as it is met; a slice's spare places count too). A statement '..UptoSaid' is the law's where the arguments, and the package variables that the reading takes, are together of bulk at most 1048576: NARROWER than '..Said'. Prove '..Said' where nothing that the law and all that it calls make is longer than what came in: it says more and counts as full. Else prove '..UptoSaid'. A law counts once. -/
mutual
def uptoBulk {H : Type} : DataW H → Nat
  | .lit (.string bytes) => bytes.length + 1
  | .lit _ => 1
  | .nil => 1
  | .ptr d => uptoBulk d + 1
  | .slice elems spare => uptoBulkAll elems + uptoBulkAll spare + 1
  | .agg parts => uptoBulkAll parts + 1
  | .iface _ d => uptoBulk d + 1
  | .map entries => uptoBulkEntries entries + 1
  | .held _ => 1
def uptoBulkAll {H : Type} : List (DataW H) → Nat
  | [] => 0
  | d :: r => uptoBulk d + uptoBulkAll r
def uptoBulkEntries {H : Type} : List (Lit × DataW H) → Nat
  | [] => 0
  | x :: r => uptoBulkEntry x + uptoBulkEntries r
def uptoBulkEntry {H : Type} : Lit × DataW H → Nat
  | (.string bytes, d) => bytes.length + uptoBulk d + 1
  | (_, d) => uptoBulk d + 1
 end
def uptoSmall : (H : Type) → List (DataW H) → Bool := fun _ ds => decide (uptoBulkAll ds ≤ 1048576)
def OpenSpec.upto (s : _root_.Go.ChangeSpec) : _root_.Go.OpenSpec := { _root_.Go.OpenSpec.ofChange s with cond := some uptoSmall }

/-- 'laws.FnExactRunFilter', WHERE WHAT IT READS IS OF BULK AT MOST 1048576: true; the input reads as it did. -/
def fnExactRunFilterUptoRow : OpenClaim := { program := "ytebocaicebolaaa", sum := "5195555106aa3cdae5dca84f449c0a9a54c6871751a3dae1b7f35f8106eac124", func := "loop.example/g01170/laws.FnExactRunFilter", spec := "fnExactRunFilter", inPlace := ["math.Float32bits", "math.Float32frombits"], unfollowed := true, recurses := true, apart := false, narrowed := true }
def FnExactRunFilterUptoSaid : Prop := fnExactRunFilterUptoRow.holds Try.pinned (OpenSpec.upto fnExactRunFilterSpec)

/-- 'laws.FnExactImpulseOf', WHERE WHAT IT READS IS OF BULK AT MOST 1048576: true; the input reads as it did. -/
def fnExactImpulseOfUptoRow : OpenClaim := { program := "ytebocaicebolaaa", sum := "5195555106aa3cdae5dca84f449c0a9a54c6871751a3dae1b7f35f8106eac124", func := "loop.example/g01170/laws.FnExactImpulseOf", spec := "fnExactImpulseOf", inPlace := ["math.Float32bits", "math.Float32frombits"], unfollowed := true, recurses := true, apart := false, narrowed := true }
def FnExactImpulseOfUptoSaid : Prop := fnExactImpulseOfUptoRow.holds Try.pinned (OpenSpec.upto fnExactImpulseOfSpec)

/-- 'laws.FnExactFilterBothWays', WHERE WHAT IT READS IS OF BULK AT MOST 1048576: true; the input reads as it did. -/
def fnExactFilterBothWaysUptoRow : OpenClaim := { program := "ytebocaicebolaaa", sum := "5195555106aa3cdae5dca84f449c0a9a54c6871751a3dae1b7f35f8106eac124", func := "loop.example/g01170/laws.FnExactFilterBothWays", spec := "fnExactFilterBothWays", inPlace := ["math.Float32bits", "math.Float32frombits"], unfollowed := true, recurses := true, apart := false, narrowed := true }
def FnExactFilterBothWaysUptoSaid : Prop := fnExactFilterBothWaysUptoRow.holds Try.pinned (OpenSpec.upto fnExactFilterBothWaysSpec)

/-- 'laws.FnExactRestAfter', WHERE WHAT IT READS IS OF BULK AT MOST 1048576: true; the input reads as it did. -/
def fnExactRestAfterUptoRow : OpenClaim := { program := "ytebocaicebolaaa", sum := "5195555106aa3cdae5dca84f449c0a9a54c6871751a3dae1b7f35f8106eac124", func := "loop.example/g01170/laws.FnExactRestAfter", spec := "fnExactRestAfter", inPlace := ["math.Float32bits", "math.Float32frombits"], unfollowed := true, recurses := true, apart := false, narrowed := true }
def FnExactRestAfterUptoSaid : Prop := fnExactRestAfterUptoRow.holds Try.pinned (OpenSpec.upto fnExactRestAfterSpec)

/-- 'laws.FnExactRunFilters', WHERE WHAT IT READS IS OF BULK AT MOST 1048576: true; the input reads as it did. -/
def fnExactRunFiltersUptoRow : OpenClaim := { program := "ytebocaicebolaaa", sum := "5195555106aa3cdae5dca84f449c0a9a54c6871751a3dae1b7f35f8106eac124", func := "loop.example/g01170/laws.FnExactRunFilters", spec := "fnExactRunFilters", inPlace := ["math.Float32bits", "math.Float32frombits"], unfollowed := true, recurses := true, apart := false, narrowed := true }
def FnExactRunFiltersUptoSaid : Prop := fnExactRunFiltersUptoRow.holds Try.pinned (OpenSpec.upto fnExactRunFiltersSpec)

/-- 'laws.FnFilterBlocks', WHERE WHAT IT READS IS OF BULK AT MOST 1048576: true; the input reads as it did. -/
def fnFilterBlocksUptoRow : OpenClaim := { program := "ytebocaicebolaaa", sum := "5195555106aa3cdae5dca84f449c0a9a54c6871751a3dae1b7f35f8106eac124", func := "loop.example/g01170/laws.FnFilterBlocks", spec := "fnFilterBlocks", inPlace := ["math.Float32frombits", "math.Float32bits"], unfollowed := true, recurses := true, apart := false, narrowed := true }
def FnFilterBlocksUptoSaid : Prop := fnFilterBlocksUptoRow.holds Try.pinned (OpenSpec.upto fnFilterBlocksSpec)

/-- 'laws.FnFilterRows', WHERE WHAT IT READS IS OF BULK AT MOST 1048576: true; the input reads as it did. -/
def fnFilterRowsUptoRow : OpenClaim := { program := "ytebocaicebolaaa", sum := "5195555106aa3cdae5dca84f449c0a9a54c6871751a3dae1b7f35f8106eac124", func := "loop.example/g01170/laws.FnFilterRows", spec := "fnFilterRows", inPlace := ["math.Float32frombits", "math.Float32bits"], unfollowed := true, recurses := true, apart := false, narrowed := true }
def FnFilterRowsUptoSaid : Prop := fnFilterRowsUptoRow.holds Try.pinned (OpenSpec.upto fnFilterRowsSpec)

/-- 'laws.FnStable', WHERE WHAT IT READS IS OF BULK AT MOST 1048576: true; the input reads as it did. -/
def fnStableUptoRow : OpenClaim := { program := "ytebocaicebolaaa", sum := "5195555106aa3cdae5dca84f449c0a9a54c6871751a3dae1b7f35f8106eac124", func := "loop.example/g01170/laws.FnStable", spec := "fnStable", inPlace := ["math.Float32bits", "math.Float32frombits"], unfollowed := true, recurses := true, apart := false, narrowed := true }
def FnStableUptoSaid : Prop := fnStableUptoRow.holds Try.pinned (OpenSpec.upto fnStableSpec)

/-- 'laws.FnForms', WHERE WHAT IT READS IS OF BULK AT MOST 1048576: true; the input reads as it did. -/
def fnFormsUptoRow : OpenClaim := { program := "ytebocaicebolaaa", sum := "5195555106aa3cdae5dca84f449c0a9a54c6871751a3dae1b7f35f8106eac124", func := "loop.example/g01170/laws.FnForms", spec := "fnForms", inPlace := ["math.Float32bits", "math.Float32frombits"], unfollowed := true, recurses := true, apart := false, narrowed := true }
def FnFormsUptoSaid : Prop := fnFormsUptoRow.holds Try.pinned (OpenSpec.upto fnFormsSpec)

/-- 'laws.FnRest', WHERE WHAT IT READS IS OF BULK AT MOST 1048576: true; the input reads as it did. -/
def fnRestUptoRow : OpenClaim := { program := "ytebocaicebolaaa", sum := "5195555106aa3cdae5dca84f449c0a9a54c6871751a3dae1b7f35f8106eac124", func := "loop.example/g01170/laws.FnRest", spec := "fnRest", inPlace := ["math.Float32bits", "math.Float32frombits"], unfollowed := true, recurses := true, apart := false, narrowed := true }
def FnRestUptoSaid : Prop := fnRestUptoRow.holds Try.pinned (OpenSpec.upto fnRestSpec)

end Rows
end Go.Proofs.Ytebocaicebolaaa
