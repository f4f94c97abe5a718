/-
  No cell of these rows narrows 'for every input' (looked for: loops, veiled, ifaces, maps, wideKeys, modest, calm, conditions, laid).
  DERIVED. THE GIVEN ROWS OF THIS SEAT. 12 by the template 'for every input the law returns true; each argument reads behind the call as it read before'; 0 by the template 'total and deterministic' (their statements: YtdibobheggffnaaTotals.lean).
  GIVEN WITH THE SEED: the statements are not yours to turn. If you find one false, say at which input.
  Laid BY PROGRAM, IN A SANDBOX (cutbox-rows.mjs): the forced cells as the released guide's own fill.sh prints them over the translation e50f27189ffb8431… (all of the seat's roots in one cut). By AI agents, Wed Nov 11 2026. No macro, syntax, notation, axiom, sorry.
-/
import Derived.Test.YtdibobheggffnaaChecked
import GoSem.Claim
import GoSem.ClaimJoined
import GoSem.ClaimMapViews
import Derived.JoinedTies
import Derived.KernelRfl
namespace Go.Proofs.Ytdibobheggffnaa
/- THE CELL 'sum', in the pinned program and in every row, IS THE sha256 OF THE DUMP (.gsa) THAT YtdibobheggffnaaProg.lean LOADS. Nothing in Lean hashes anything: it is a label: what it is worth is what the hold of that sum in a sandbox is worth. -/
noncomputable def Try.pinned : Pinned := { name := "ytdibobheggffnaa", sum := "e50f27189ffb8431500bbe84031b9b7b6dd0aebb13df92654736adcba60f90ac", checked := Try.checked }
namespace Rows
def none {H : Type} : Left H := { results := [], args := [] }

/-- 'laws.FnExactSpreadBy': WHATEVER THE INPUT: true; the input reads as it did. -/
def fnExactSpreadBySpec : ChangeSpec := { name := "fnExactSpreadBy", fn := fun _ => fun
  | [d1, d2] => { results := [.lit (.bool true)], args := [d1, d2] }
  | _ => none }
def fnExactSpreadByRow : OpenClaim := { program := "ytdibobheggffnaa", sum := "e50f27189ffb8431500bbe84031b9b7b6dd0aebb13df92654736adcba60f90ac", func := "loop.example/g01170/laws.FnExactSpreadBy", spec := "fnExactSpreadBy", apart := false }
def FnExactSpreadBySaid : Prop := fnExactSpreadByRow.holds Try.pinned (OpenSpec.ofChange fnExactSpreadBySpec)

/-- ITS FALSE NEIGHBOUR: 'it returns false'. Refute it at one input. -/
def fnExactSpreadByWrong : ChangeSpec := { name := "fnExactSpreadBy", fn := fun _ => fun
  | [d1, d2] => { results := [.lit (.bool false)], args := [d1, d2] }
  | _ => none }
def FnExactSpreadByWrongFalsely : Prop := fnExactSpreadByRow.holds Try.pinned (OpenSpec.ofChange fnExactSpreadByWrong)

/-- 'laws.FnExactPickBy': WHATEVER THE INPUT: true; the input reads as it did. -/
def fnExactPickBySpec : ChangeSpec := { name := "fnExactPickBy", fn := fun _ => fun
  | [d1, d2, d3] => { results := [.lit (.bool true)], args := [d1, d2, d3] }
  | _ => none }
def fnExactPickByRow : OpenClaim := { program := "ytdibobheggffnaa", sum := "e50f27189ffb8431500bbe84031b9b7b6dd0aebb13df92654736adcba60f90ac", func := "loop.example/g01170/laws.FnExactPickBy", spec := "fnExactPickBy", apart := false }
def FnExactPickBySaid : Prop := fnExactPickByRow.holds Try.pinned (OpenSpec.ofChange fnExactPickBySpec)

/-- ITS FALSE NEIGHBOUR: 'it returns false'. Refute it at one input. -/
def fnExactPickByWrong : ChangeSpec := { name := "fnExactPickBy", fn := fun _ => fun
  | [d1, d2, d3] => { results := [.lit (.bool false)], args := [d1, d2, d3] }
  | _ => none }
def FnExactPickByWrongFalsely : Prop := fnExactPickByRow.holds Try.pinned (OpenSpec.ofChange fnExactPickByWrong)

/-- 'laws.FnExactFoldTaps': WHATEVER THE INPUT: true; the input reads as it did. -/
def fnExactFoldTapsSpec : ChangeSpec := { name := "fnExactFoldTaps", fn := fun _ => fun
  | [d1, d2, d3] => { results := [.lit (.bool true)], args := [d1, d2, d3] }
  | _ => none }
def fnExactFoldTapsRow : OpenClaim := { program := "ytdibobheggffnaa", sum := "e50f27189ffb8431500bbe84031b9b7b6dd0aebb13df92654736adcba60f90ac", func := "loop.example/g01170/laws.FnExactFoldTaps", spec := "fnExactFoldTaps", apart := false }
def FnExactFoldTapsSaid : Prop := fnExactFoldTapsRow.holds Try.pinned (OpenSpec.ofChange fnExactFoldTapsSpec)

/-- ITS FALSE NEIGHBOUR: 'it returns false'. Refute it at one input. -/
def fnExactFoldTapsWrong : ChangeSpec := { name := "fnExactFoldTaps", fn := fun _ => fun
  | [d1, d2, d3] => { results := [.lit (.bool false)], args := [d1, d2, d3] }
  | _ => none }
def FnExactFoldTapsWrongFalsely : Prop := fnExactFoldTapsRow.holds Try.pinned (OpenSpec.ofChange fnExactFoldTapsWrong)

/-- 'laws.FnExactCountClipped': WHATEVER THE INPUT: true; the input reads as it did. -/
def fnExactCountClippedSpec : ChangeSpec := { name := "fnExactCountClipped", fn := fun _ => fun
  | [d1, d2] => { results := [.lit (.bool true)], args := [d1, d2] }
  | _ => none }
def fnExactCountClippedRow : OpenClaim := { program := "ytdibobheggffnaa", sum := "e50f27189ffb8431500bbe84031b9b7b6dd0aebb13df92654736adcba60f90ac", func := "loop.example/g01170/laws.FnExactCountClipped", spec := "fnExactCountClipped", unfollowed := true, recurses := true, apart := false }
def FnExactCountClippedSaid : Prop := fnExactCountClippedRow.holds Try.pinned (OpenSpec.ofChange fnExactCountClippedSpec)

/-- ITS FALSE NEIGHBOUR: 'it returns false'. Refute it at one input. -/
def fnExactCountClippedWrong : ChangeSpec := { name := "fnExactCountClipped", fn := fun _ => fun
  | [d1, d2] => { results := [.lit (.bool false)], args := [d1, d2] }
  | _ => none }
def FnExactCountClippedWrongFalsely : Prop := fnExactCountClippedRow.holds Try.pinned (OpenSpec.ofChange fnExactCountClippedWrong)

/-- 'laws.FnExactCodesOf': WHATEVER THE INPUT: true; the input reads as it did. -/
def fnExactCodesOfSpec : ChangeSpec := { name := "fnExactCodesOf", fn := fun _ => fun
  | [d1, d2] => { results := [.lit (.bool true)], args := [d1, d2] }
  | _ => none }
def fnExactCodesOfRow : OpenClaim := { program := "ytdibobheggffnaa", sum := "e50f27189ffb8431500bbe84031b9b7b6dd0aebb13df92654736adcba60f90ac", func := "loop.example/g01170/laws.FnExactCodesOf", spec := "fnExactCodesOf", inPlace := ["math.RoundToEven"], unfollowed := true, recurses := true, apart := false }
def FnExactCodesOfSaid : Prop := fnExactCodesOfRow.holds Try.pinned (OpenSpec.ofChange fnExactCodesOfSpec)

/-- ITS FALSE NEIGHBOUR: 'it returns false'. Refute it at one input. -/
def fnExactCodesOfWrong : ChangeSpec := { name := "fnExactCodesOf", fn := fun _ => fun
  | [d1, d2] => { results := [.lit (.bool false)], args := [d1, d2] }
  | _ => none }
def FnExactCodesOfWrongFalsely : Prop := fnExactCodesOfRow.holds Try.pinned (OpenSpec.ofChange fnExactCodesOfWrong)

/-- 'laws.FnExactSamplesOf': WHATEVER THE INPUT: true; the input reads as it did. -/
def fnExactSamplesOfSpec : ChangeSpec := { name := "fnExactSamplesOf", fn := fun _ => fun
  | [d1, d2] => { results := [.lit (.bool true)], args := [d1, d2] }
  | _ => none }
def fnExactSamplesOfRow : OpenClaim := { program := "ytdibobheggffnaa", sum := "e50f27189ffb8431500bbe84031b9b7b6dd0aebb13df92654736adcba60f90ac", func := "loop.example/g01170/laws.FnExactSamplesOf", spec := "fnExactSamplesOf", unfollowed := true, recurses := true, apart := false }
def FnExactSamplesOfSaid : Prop := fnExactSamplesOfRow.holds Try.pinned (OpenSpec.ofChange fnExactSamplesOfSpec)

/-- ITS FALSE NEIGHBOUR: 'it returns false'. Refute it at one input. -/
def fnExactSamplesOfWrong : ChangeSpec := { name := "fnExactSamplesOf", fn := fun _ => fun
  | [d1, d2] => { results := [.lit (.bool false)], args := [d1, d2] }
  | _ => none }
def FnExactSamplesOfWrongFalsely : Prop := fnExactSamplesOfRow.holds Try.pinned (OpenSpec.ofChange fnExactSamplesOfWrong)

/-- 'laws.FnExactCodesWith': WHATEVER THE INPUT: true; the input reads as it did. -/
def fnExactCodesWithSpec : ChangeSpec := { name := "fnExactCodesWith", fn := fun _ => fun
  | [d1, d2, d3] => { results := [.lit (.bool true)], args := [d1, d2, d3] }
  | _ => none }
def fnExactCodesWithRow : OpenClaim := { program := "ytdibobheggffnaa", sum := "e50f27189ffb8431500bbe84031b9b7b6dd0aebb13df92654736adcba60f90ac", func := "loop.example/g01170/laws.FnExactCodesWith", spec := "fnExactCodesWith", inPlace := ["math.RoundToEven"], unfollowed := true, recurses := true, apart := false }
def FnExactCodesWithSaid : Prop := fnExactCodesWithRow.holds Try.pinned (OpenSpec.ofChange fnExactCodesWithSpec)

/-- ITS FALSE NEIGHBOUR: 'it returns false'. Refute it at one input. -/
def fnExactCodesWithWrong : ChangeSpec := { name := "fnExactCodesWith", fn := fun _ => fun
  | [d1, d2, d3] => { results := [.lit (.bool false)], args := [d1, d2, d3] }
  | _ => none }
def FnExactCodesWithWrongFalsely : Prop := fnExactCodesWithRow.holds Try.pinned (OpenSpec.ofChange fnExactCodesWithWrong)

/-- 'laws.FnExactCodesShaped': WHATEVER THE INPUT: true; the input reads as it did. -/
def fnExactCodesShapedSpec : ChangeSpec := { name := "fnExactCodesShaped", fn := fun _ => fun
  | [d1, d2, d3] => { results := [.lit (.bool true)], args := [d1, d2, d3] }
  | _ => none }
def fnExactCodesShapedRow : OpenClaim := { program := "ytdibobheggffnaa", sum := "e50f27189ffb8431500bbe84031b9b7b6dd0aebb13df92654736adcba60f90ac", func := "loop.example/g01170/laws.FnExactCodesShaped", spec := "fnExactCodesShaped", inPlace := ["math.RoundToEven", "math.Float32bits"], unfollowed := true, recurses := true, apart := false }
def FnExactCodesShapedSaid : Prop := fnExactCodesShapedRow.holds Try.pinned (OpenSpec.ofChange fnExactCodesShapedSpec)

/-- ITS FALSE NEIGHBOUR: 'it returns false'. Refute it at one input. -/
def fnExactCodesShapedWrong : ChangeSpec := { name := "fnExactCodesShaped", fn := fun _ => fun
  | [d1, d2, d3] => { results := [.lit (.bool false)], args := [d1, d2, d3] }
  | _ => none }
def FnExactCodesShapedWrongFalsely : Prop := fnExactCodesShapedRow.holds Try.pinned (OpenSpec.ofChange fnExactCodesShapedWrong)

/-- 'laws.FnExactReadAt': WHATEVER THE INPUT: true; the input reads as it did. -/
def fnExactReadAtSpec : ChangeSpec := { name := "fnExactReadAt", fn := fun _ => fun
  | [d1, d2, d3] => { results := [.lit (.bool true)], args := [d1, d2, d3] }
  | _ => none }
def fnExactReadAtRow : OpenClaim := { program := "ytdibobheggffnaa", sum := "e50f27189ffb8431500bbe84031b9b7b6dd0aebb13df92654736adcba60f90ac", func := "loop.example/g01170/laws.FnExactReadAt", spec := "fnExactReadAt", unfollowed := true, recurses := true, apart := false }
def FnExactReadAtSaid : Prop := fnExactReadAtRow.holds Try.pinned (OpenSpec.ofChange fnExactReadAtSpec)

/-- ITS FALSE NEIGHBOUR: 'it returns false'. Refute it at one input. -/
def fnExactReadAtWrong : ChangeSpec := { name := "fnExactReadAt", fn := fun _ => fun
  | [d1, d2, d3] => { results := [.lit (.bool false)], args := [d1, d2, d3] }
  | _ => none }
def FnExactReadAtWrongFalsely : Prop := fnExactReadAtRow.holds Try.pinned (OpenSpec.ofChange fnExactReadAtWrong)

/-- 'laws.FnExactPlayAt': WHATEVER THE INPUT: true; the input reads as it did. -/
def fnExactPlayAtSpec : ChangeSpec := { name := "fnExactPlayAt", fn := fun _ => fun
  | [d1, d2, d3, d4, d5] => { results := [.lit (.bool true)], args := [d1, d2, d3, d4, d5] }
  | _ => none }
def fnExactPlayAtRow : OpenClaim := { program := "ytdibobheggffnaa", sum := "e50f27189ffb8431500bbe84031b9b7b6dd0aebb13df92654736adcba60f90ac", func := "loop.example/g01170/laws.FnExactPlayAt", spec := "fnExactPlayAt", inPlace := ["math.Float64bits", "math.Float64frombits"], unfollowed := true, recurses := true, apart := false }
def FnExactPlayAtSaid : Prop := fnExactPlayAtRow.holds Try.pinned (OpenSpec.ofChange fnExactPlayAtSpec)

/-- ITS FALSE NEIGHBOUR: 'it returns false'. Refute it at one input. -/
def fnExactPlayAtWrong : ChangeSpec := { name := "fnExactPlayAt", fn := fun _ => fun
  | [d1, d2, d3, d4, d5] => { results := [.lit (.bool false)], args := [d1, d2, d3, d4, d5] }
  | _ => none }
def FnExactPlayAtWrongFalsely : Prop := fnExactPlayAtRow.holds Try.pinned (OpenSpec.ofChange fnExactPlayAtWrong)

/-- 'laws.FnExactRaiseBy': WHATEVER THE INPUT: true; the input reads as it did. -/
def fnExactRaiseBySpec : ChangeSpec := { name := "fnExactRaiseBy", fn := fun _ => fun
  | [d1, d2, d3] => { results := [.lit (.bool true)], args := [d1, d2, d3] }
  | _ => none }
def fnExactRaiseByRow : OpenClaim := { program := "ytdibobheggffnaa", sum := "e50f27189ffb8431500bbe84031b9b7b6dd0aebb13df92654736adcba60f90ac", func := "loop.example/g01170/laws.FnExactRaiseBy", spec := "fnExactRaiseBy", apart := false }
def FnExactRaiseBySaid : Prop := fnExactRaiseByRow.holds Try.pinned (OpenSpec.ofChange fnExactRaiseBySpec)

/-- ITS FALSE NEIGHBOUR: 'it returns false'. Refute it at one input. -/
def fnExactRaiseByWrong : ChangeSpec := { name := "fnExactRaiseBy", fn := fun _ => fun
  | [d1, d2, d3] => { results := [.lit (.bool false)], args := [d1, d2, d3] }
  | _ => none }
def FnExactRaiseByWrongFalsely : Prop := fnExactRaiseByRow.holds Try.pinned (OpenSpec.ofChange fnExactRaiseByWrong)

/-- 'laws.FnExactLowerBy': WHATEVER THE INPUT: true; the input reads as it did. -/
def fnExactLowerBySpec : ChangeSpec := { name := "fnExactLowerBy", fn := fun _ => fun
  | [d1, d2, d3] => { results := [.lit (.bool true)], args := [d1, d2, d3] }
  | _ => none }
def fnExactLowerByRow : OpenClaim := { program := "ytdibobheggffnaa", sum := "e50f27189ffb8431500bbe84031b9b7b6dd0aebb13df92654736adcba60f90ac", func := "loop.example/g01170/laws.FnExactLowerBy", spec := "fnExactLowerBy", apart := false }
def FnExactLowerBySaid : Prop := fnExactLowerByRow.holds Try.pinned (OpenSpec.ofChange fnExactLowerBySpec)

/-- ITS FALSE NEIGHBOUR: 'it returns false'. Refute it at one input. -/
def fnExactLowerByWrong : ChangeSpec := { name := "fnExactLowerBy", fn := fun _ => fun
  | [d1, d2, d3] => { results := [.lit (.bool false)], args := [d1, d2, d3] }
  | _ => none }
def FnExactLowerByWrongFalsely : Prop := fnExactLowerByRow.holds Try.pinned (OpenSpec.ofChange fnExactLowerByWrong)

/- THE SECOND FORM. 'bulk': how many values and letters a reading holds, each counted each time it is reached (what is shared counts as often as it is met; a slice's spare places count too). A statement '..UptoSaid' is the law's where the arguments, and the package variables that the reading takes, are together of bulk at most 1048576: NARROWER than '..Said'. Prove '..Said' where nothing that the law and all that it calls make is longer than what came in: it says more and counts as full. Else prove '..UptoSaid'. A law counts once. -/
mutual
def uptoBulk {H : Type} : DataW H → Nat
  | .lit (.string bytes) => bytes.length + 1
  | .lit _ => 1
  | .nil => 1
  | .ptr d => uptoBulk d + 1
  | .slice elems spare => uptoBulkAll elems + uptoBulkAll spare + 1
  | .agg parts => uptoBulkAll parts + 1
  | .iface _ d => uptoBulk d + 1
  | .map entries => uptoBulkEntries entries + 1
  | .held _ => 1
def uptoBulkAll {H : Type} : List (DataW H) → Nat
  | [] => 0
  | d :: r => uptoBulk d + uptoBulkAll r
def uptoBulkEntries {H : Type} : List (Lit × DataW H) → Nat
  | [] => 0
  | x :: r => uptoBulkEntry x + uptoBulkEntries r
def uptoBulkEntry {H : Type} : Lit × DataW H → Nat
  | (.string bytes, d) => bytes.length + uptoBulk d + 1
  | (_, d) => uptoBulk d + 1
 end
def uptoSmall : (H : Type) → List (DataW H) → Bool := fun _ ds => decide (uptoBulkAll ds ≤ 1048576)
def OpenSpec.upto (s : _root_.Go.ChangeSpec) : _root_.Go.OpenSpec := { _root_.Go.OpenSpec.ofChange s with cond := some uptoSmall }

/-- 'laws.FnExactSpreadBy', WHERE WHAT IT READS IS OF BULK AT MOST 1048576: true; the input reads as it did. -/
def fnExactSpreadByUptoRow : OpenClaim := { program := "ytdibobheggffnaa", sum := "e50f27189ffb8431500bbe84031b9b7b6dd0aebb13df92654736adcba60f90ac", func := "loop.example/g01170/laws.FnExactSpreadBy", spec := "fnExactSpreadBy", apart := false, narrowed := true }
def FnExactSpreadByUptoSaid : Prop := fnExactSpreadByUptoRow.holds Try.pinned (OpenSpec.upto fnExactSpreadBySpec)

/-- 'laws.FnExactPickBy', WHERE WHAT IT READS IS OF BULK AT MOST 1048576: true; the input reads as it did. -/
def fnExactPickByUptoRow : OpenClaim := { program := "ytdibobheggffnaa", sum := "e50f27189ffb8431500bbe84031b9b7b6dd0aebb13df92654736adcba60f90ac", func := "loop.example/g01170/laws.FnExactPickBy", spec := "fnExactPickBy", apart := false, narrowed := true }
def FnExactPickByUptoSaid : Prop := fnExactPickByUptoRow.holds Try.pinned (OpenSpec.upto fnExactPickBySpec)

/-- 'laws.FnExactFoldTaps', WHERE WHAT IT READS IS OF BULK AT MOST 1048576: true; the input reads as it did. -/
def fnExactFoldTapsUptoRow : OpenClaim := { program := "ytdibobheggffnaa", sum := "e50f27189ffb8431500bbe84031b9b7b6dd0aebb13df92654736adcba60f90ac", func := "loop.example/g01170/laws.FnExactFoldTaps", spec := "fnExactFoldTaps", apart := false, narrowed := true }
def FnExactFoldTapsUptoSaid : Prop := fnExactFoldTapsUptoRow.holds Try.pinned (OpenSpec.upto fnExactFoldTapsSpec)

/-- 'laws.FnExactCountClipped', WHERE WHAT IT READS IS OF BULK AT MOST 1048576: true; the input reads as it did. -/
def fnExactCountClippedUptoRow : OpenClaim := { program := "ytdibobheggffnaa", sum := "e50f27189ffb8431500bbe84031b9b7b6dd0aebb13df92654736adcba60f90ac", func := "loop.example/g01170/laws.FnExactCountClipped", spec := "fnExactCountClipped", unfollowed := true, recurses := true, apart := false, narrowed := true }
def FnExactCountClippedUptoSaid : Prop := fnExactCountClippedUptoRow.holds Try.pinned (OpenSpec.upto fnExactCountClippedSpec)

/-- 'laws.FnExactCodesOf', WHERE WHAT IT READS IS OF BULK AT MOST 1048576: true; the input reads as it did. -/
def fnExactCodesOfUptoRow : OpenClaim := { program := "ytdibobheggffnaa", sum := "e50f27189ffb8431500bbe84031b9b7b6dd0aebb13df92654736adcba60f90ac", func := "loop.example/g01170/laws.FnExactCodesOf", spec := "fnExactCodesOf", inPlace := ["math.RoundToEven"], unfollowed := true, recurses := true, apart := false, narrowed := true }
def FnExactCodesOfUptoSaid : Prop := fnExactCodesOfUptoRow.holds Try.pinned (OpenSpec.upto fnExactCodesOfSpec)

/-- 'laws.FnExactSamplesOf', WHERE WHAT IT READS IS OF BULK AT MOST 1048576: true; the input reads as it did. -/
def fnExactSamplesOfUptoRow : OpenClaim := { program := "ytdibobheggffnaa", sum := "e50f27189ffb8431500bbe84031b9b7b6dd0aebb13df92654736adcba60f90ac", func := "loop.example/g01170/laws.FnExactSamplesOf", spec := "fnExactSamplesOf", unfollowed := true, recurses := true, apart := false, narrowed := true }
def FnExactSamplesOfUptoSaid : Prop := fnExactSamplesOfUptoRow.holds Try.pinned (OpenSpec.upto fnExactSamplesOfSpec)

/-- 'laws.FnExactCodesWith', WHERE WHAT IT READS IS OF BULK AT MOST 1048576: true; the input reads as it did. -/
def fnExactCodesWithUptoRow : OpenClaim := { program := "ytdibobheggffnaa", sum := "e50f27189ffb8431500bbe84031b9b7b6dd0aebb13df92654736adcba60f90ac", func := "loop.example/g01170/laws.FnExactCodesWith", spec := "fnExactCodesWith", inPlace := ["math.RoundToEven"], unfollowed := true, recurses := true, apart := false, narrowed := true }
def FnExactCodesWithUptoSaid : Prop := fnExactCodesWithUptoRow.holds Try.pinned (OpenSpec.upto fnExactCodesWithSpec)

/-- 'laws.FnExactCodesShaped', WHERE WHAT IT READS IS OF BULK AT MOST 1048576: true; the input reads as it did. -/
def fnExactCodesShapedUptoRow : OpenClaim := { program := "ytdibobheggffnaa", sum := "e50f27189ffb8431500bbe84031b9b7b6dd0aebb13df92654736adcba60f90ac", func := "loop.example/g01170/laws.FnExactCodesShaped", spec := "fnExactCodesShaped", inPlace := ["math.RoundToEven", "math.Float32bits"], unfollowed := true, recurses := true, apart := false, narrowed := true }
def FnExactCodesShapedUptoSaid : Prop := fnExactCodesShapedUptoRow.holds Try.pinned (OpenSpec.upto fnExactCodesShapedSpec)

/-- 'laws.FnExactReadAt', WHERE WHAT IT READS IS OF BULK AT MOST 1048576: true; the input reads as it did. -/
def fnExactReadAtUptoRow : OpenClaim := { program := "ytdibobheggffnaa", sum := "e50f27189ffb8431500bbe84031b9b7b6dd0aebb13df92654736adcba60f90ac", func := "loop.example/g01170/laws.FnExactReadAt", spec := "fnExactReadAt", unfollowed := true, recurses := true, apart := false, narrowed := true }
def FnExactReadAtUptoSaid : Prop := fnExactReadAtUptoRow.holds Try.pinned (OpenSpec.upto fnExactReadAtSpec)

/-- 'laws.FnExactPlayAt', WHERE WHAT IT READS IS OF BULK AT MOST 1048576: true; the input reads as it did. -/
def fnExactPlayAtUptoRow : OpenClaim := { program := "ytdibobheggffnaa", sum := "e50f27189ffb8431500bbe84031b9b7b6dd0aebb13df92654736adcba60f90ac", func := "loop.example/g01170/laws.FnExactPlayAt", spec := "fnExactPlayAt", inPlace := ["math.Float64bits", "math.Float64frombits"], unfollowed := true, recurses := true, apart := false, narrowed := true }
def FnExactPlayAtUptoSaid : Prop := fnExactPlayAtUptoRow.holds Try.pinned (OpenSpec.upto fnExactPlayAtSpec)

/-- 'laws.FnExactRaiseBy', WHERE WHAT IT READS IS OF BULK AT MOST 1048576: true; the input reads as it did. -/
def fnExactRaiseByUptoRow : OpenClaim := { program := "ytdibobheggffnaa", sum := "e50f27189ffb8431500bbe84031b9b7b6dd0aebb13df92654736adcba60f90ac", func := "loop.example/g01170/laws.FnExactRaiseBy", spec := "fnExactRaiseBy", apart := false, narrowed := true }
def FnExactRaiseByUptoSaid : Prop := fnExactRaiseByUptoRow.holds Try.pinned (OpenSpec.upto fnExactRaiseBySpec)

/-- 'laws.FnExactLowerBy', WHERE WHAT IT READS IS OF BULK AT MOST 1048576: true; the input reads as it did. -/
def fnExactLowerByUptoRow : OpenClaim := { program := "ytdibobheggffnaa", sum := "e50f27189ffb8431500bbe84031b9b7b6dd0aebb13df92654736adcba60f90ac", func := "loop.example/g01170/laws.FnExactLowerBy", spec := "fnExactLowerBy", apart := false, narrowed := true }
def FnExactLowerByUptoSaid : Prop := fnExactLowerByUptoRow.holds Try.pinned (OpenSpec.upto fnExactLowerBySpec)

end Rows
end Go.Proofs.Ytdibobheggffnaa
