/-
  No cell of these rows narrows 'for every input' (looked for: loops, veiled, ifaces, maps, wideKeys, modest, calm, conditions, laid).
  DERIVED. THE GIVEN ROWS OF THIS SEAT. 7 by the template 'for every input the law returns true; each argument reads behind the call as it read before'; 0 by the template 'total and deterministic' (their statements: YteggicdhgcecpaaTotals.lean).
  GIVEN WITH THE SEED: the statements are not yours to turn. If you find one false, say at which input.
  Laid BY PROGRAM, IN A SANDBOX (cutbox-rows.mjs): the forced cells as the released guide's own fill.sh prints them over the translation a14299c3ea69b55a… (all of the seat's roots in one cut). By AI agents, Wed Nov 11 2026. No macro, syntax, notation, axiom, sorry.
-/
import Derived.Test.YteggicdhgcecpaaChecked
import GoSem.Claim
import GoSem.ClaimJoined
import GoSem.ClaimMapViews
import Derived.JoinedTies
import Derived.KernelRfl
namespace Go.Proofs.Yteggicdhgcecpaa
/- THE CELL 'sum', in the pinned program and in every row, IS THE sha256 OF THE DUMP (.gsa) THAT YteggicdhgcecpaaProg.lean LOADS. Nothing in Lean hashes anything: it is a label: what it is worth is what the hold of that sum in a sandbox is worth. -/
noncomputable def Try.pinned : Pinned := { name := "yteggicdhgcecpaa", sum := "a14299c3ea69b55a227274c8919c031ade2906159e97e73cf6c891971dc4b101", checked := Try.checked }
namespace Rows
def none {H : Type} : Left H := { results := [], args := [] }

/-- 'laws.FnExactRunDelay': WHATEVER THE INPUT: true; the input reads as it did. -/
def fnExactRunDelaySpec : ChangeSpec := { name := "fnExactRunDelay", fn := fun _ => fun
  | [d1, d2, d3] => { results := [.lit (.bool true)], args := [d1, d2, d3] }
  | _ => none }
def fnExactRunDelayRow : OpenClaim := { program := "yteggicdhgcecpaa", sum := "a14299c3ea69b55a227274c8919c031ade2906159e97e73cf6c891971dc4b101", func := "loop.example/g01170/laws.FnExactRunDelay", spec := "fnExactRunDelay", inPlace := ["math.Float32bits", "math.Float32frombits"], unfollowed := true, recurses := true, apart := false }
def FnExactRunDelaySaid : Prop := fnExactRunDelayRow.holds Try.pinned (OpenSpec.ofChange fnExactRunDelaySpec)

/-- ITS FALSE NEIGHBOUR: 'it returns false'. Refute it at one input. -/
def fnExactRunDelayWrong : ChangeSpec := { name := "fnExactRunDelay", fn := fun _ => fun
  | [d1, d2, d3] => { results := [.lit (.bool false)], args := [d1, d2, d3] }
  | _ => none }
def FnExactRunDelayWrongFalsely : Prop := fnExactRunDelayRow.holds Try.pinned (OpenSpec.ofChange fnExactRunDelayWrong)

/-- 'laws.FnExactRunPass': WHATEVER THE INPUT: true; the input reads as it did. -/
def fnExactRunPassSpec : ChangeSpec := { name := "fnExactRunPass", fn := fun _ => fun
  | [d1, d2, d3] => { results := [.lit (.bool true)], args := [d1, d2, d3] }
  | _ => none }
def fnExactRunPassRow : OpenClaim := { program := "yteggicdhgcecpaa", sum := "a14299c3ea69b55a227274c8919c031ade2906159e97e73cf6c891971dc4b101", func := "loop.example/g01170/laws.FnExactRunPass", spec := "fnExactRunPass", unfollowed := true, recurses := true, apart := false }
def FnExactRunPassSaid : Prop := fnExactRunPassRow.holds Try.pinned (OpenSpec.ofChange fnExactRunPassSpec)

/-- ITS FALSE NEIGHBOUR: 'it returns false'. Refute it at one input. -/
def fnExactRunPassWrong : ChangeSpec := { name := "fnExactRunPass", fn := fun _ => fun
  | [d1, d2, d3] => { results := [.lit (.bool false)], args := [d1, d2, d3] }
  | _ => none }
def FnExactRunPassWrongFalsely : Prop := fnExactRunPassRow.holds Try.pinned (OpenSpec.ofChange fnExactRunPassWrong)

/-- 'laws.FnExactFollowLevel': WHATEVER THE INPUT: true; the input reads as it did. -/
def fnExactFollowLevelSpec : ChangeSpec := { name := "fnExactFollowLevel", fn := fun _ => fun
  | [d1, d2] => { results := [.lit (.bool true)], args := [d1, d2] }
  | _ => none }
def fnExactFollowLevelRow : OpenClaim := { program := "yteggicdhgcecpaa", sum := "a14299c3ea69b55a227274c8919c031ade2906159e97e73cf6c891971dc4b101", func := "loop.example/g01170/laws.FnExactFollowLevel", spec := "fnExactFollowLevel", inPlace := ["math.Float32bits", "math.Float32frombits"], unfollowed := true, recurses := true, apart := false }
def FnExactFollowLevelSaid : Prop := fnExactFollowLevelRow.holds Try.pinned (OpenSpec.ofChange fnExactFollowLevelSpec)

/-- ITS FALSE NEIGHBOUR: 'it returns false'. Refute it at one input. -/
def fnExactFollowLevelWrong : ChangeSpec := { name := "fnExactFollowLevel", fn := fun _ => fun
  | [d1, d2] => { results := [.lit (.bool false)], args := [d1, d2] }
  | _ => none }
def FnExactFollowLevelWrongFalsely : Prop := fnExactFollowLevelRow.holds Try.pinned (OpenSpec.ofChange fnExactFollowLevelWrong)

/-- 'laws.FnExactRunGate': WHATEVER THE INPUT: true; the input reads as it did. -/
def fnExactRunGateSpec : ChangeSpec := { name := "fnExactRunGate", fn := fun _ => fun
  | [d1, d2, d3, d4] => { results := [.lit (.bool true)], args := [d1, d2, d3, d4] }
  | _ => none }
def fnExactRunGateRow : OpenClaim := { program := "yteggicdhgcecpaa", sum := "a14299c3ea69b55a227274c8919c031ade2906159e97e73cf6c891971dc4b101", func := "loop.example/g01170/laws.FnExactRunGate", spec := "fnExactRunGate", inPlace := ["math.Float32bits", "math.Float32frombits"], unfollowed := true, recurses := true, apart := false }
def FnExactRunGateSaid : Prop := fnExactRunGateRow.holds Try.pinned (OpenSpec.ofChange fnExactRunGateSpec)

/-- ITS FALSE NEIGHBOUR: 'it returns false'. Refute it at one input. -/
def fnExactRunGateWrong : ChangeSpec := { name := "fnExactRunGate", fn := fun _ => fun
  | [d1, d2, d3, d4] => { results := [.lit (.bool false)], args := [d1, d2, d3, d4] }
  | _ => none }
def FnExactRunGateWrongFalsely : Prop := fnExactRunGateRow.holds Try.pinned (OpenSpec.ofChange fnExactRunGateWrong)

/-- 'laws.FnExactClipSamples': WHATEVER THE INPUT: true; the input reads as it did. -/
def fnExactClipSamplesSpec : ChangeSpec := { name := "fnExactClipSamples", fn := fun _ => fun
  | [d1, d2] => { results := [.lit (.bool true)], args := [d1, d2] }
  | _ => none }
def fnExactClipSamplesRow : OpenClaim := { program := "yteggicdhgcecpaa", sum := "a14299c3ea69b55a227274c8919c031ade2906159e97e73cf6c891971dc4b101", func := "loop.example/g01170/laws.FnExactClipSamples", spec := "fnExactClipSamples", inPlace := ["math.Float32bits", "math.Float32frombits"], unfollowed := true, recurses := true, apart := false }
def FnExactClipSamplesSaid : Prop := fnExactClipSamplesRow.holds Try.pinned (OpenSpec.ofChange fnExactClipSamplesSpec)

/-- ITS FALSE NEIGHBOUR: 'it returns false'. Refute it at one input. -/
def fnExactClipSamplesWrong : ChangeSpec := { name := "fnExactClipSamples", fn := fun _ => fun
  | [d1, d2] => { results := [.lit (.bool false)], args := [d1, d2] }
  | _ => none }
def FnExactClipSamplesWrongFalsely : Prop := fnExactClipSamplesRow.holds Try.pinned (OpenSpec.ofChange fnExactClipSamplesWrong)

/-- 'laws.FnExactMiddleAndSide': WHATEVER THE INPUT: true; the input reads as it did. -/
def fnExactMiddleAndSideSpec : ChangeSpec := { name := "fnExactMiddleAndSide", fn := fun _ => fun
  | [d1, d2] => { results := [.lit (.bool true)], args := [d1, d2] }
  | _ => none }
def fnExactMiddleAndSideRow : OpenClaim := { program := "yteggicdhgcecpaa", sum := "a14299c3ea69b55a227274c8919c031ade2906159e97e73cf6c891971dc4b101", func := "loop.example/g01170/laws.FnExactMiddleAndSide", spec := "fnExactMiddleAndSide", unfollowed := true, recurses := true, apart := false }
def FnExactMiddleAndSideSaid : Prop := fnExactMiddleAndSideRow.holds Try.pinned (OpenSpec.ofChange fnExactMiddleAndSideSpec)

/-- ITS FALSE NEIGHBOUR: 'it returns false'. Refute it at one input. -/
def fnExactMiddleAndSideWrong : ChangeSpec := { name := "fnExactMiddleAndSide", fn := fun _ => fun
  | [d1, d2] => { results := [.lit (.bool false)], args := [d1, d2] }
  | _ => none }
def FnExactMiddleAndSideWrongFalsely : Prop := fnExactMiddleAndSideRow.holds Try.pinned (OpenSpec.ofChange fnExactMiddleAndSideWrong)

/-- 'laws.FnExactLeftAndRight': WHATEVER THE INPUT: true; the input reads as it did. -/
def fnExactLeftAndRightSpec : ChangeSpec := { name := "fnExactLeftAndRight", fn := fun _ => fun
  | [d1, d2] => { results := [.lit (.bool true)], args := [d1, d2] }
  | _ => none }
def fnExactLeftAndRightRow : OpenClaim := { program := "yteggicdhgcecpaa", sum := "a14299c3ea69b55a227274c8919c031ade2906159e97e73cf6c891971dc4b101", func := "loop.example/g01170/laws.FnExactLeftAndRight", spec := "fnExactLeftAndRight", apart := false }
def FnExactLeftAndRightSaid : Prop := fnExactLeftAndRightRow.holds Try.pinned (OpenSpec.ofChange fnExactLeftAndRightSpec)

/-- ITS FALSE NEIGHBOUR: 'it returns false'. Refute it at one input. -/
def fnExactLeftAndRightWrong : ChangeSpec := { name := "fnExactLeftAndRight", fn := fun _ => fun
  | [d1, d2] => { results := [.lit (.bool false)], args := [d1, d2] }
  | _ => none }
def FnExactLeftAndRightWrongFalsely : Prop := fnExactLeftAndRightRow.holds Try.pinned (OpenSpec.ofChange fnExactLeftAndRightWrong)

/- THE SECOND FORM. 'bulk': how many values and letters a reading holds, each counted each time it is reached (what is shared counts as often as it is met; a slice's spare places count too). A statement '..UptoSaid' is the law's where the arguments, and the package variables that the reading takes, are together of bulk at most 1048576: NARROWER than '..Said'. Prove '..Said' where nothing that the law and all that it calls make is longer than what came in: it says more and counts as full. Else prove '..UptoSaid'. A law counts once. -/
mutual
def uptoBulk {H : Type} : DataW H → Nat
  | .lit (.string bytes) => bytes.length + 1
  | .lit _ => 1
  | .nil => 1
  | .ptr d => uptoBulk d + 1
  | .slice elems spare => uptoBulkAll elems + uptoBulkAll spare + 1
  | .agg parts => uptoBulkAll parts + 1
  | .iface _ d => uptoBulk d + 1
  | .map entries => uptoBulkEntries entries + 1
  | .held _ => 1
def uptoBulkAll {H : Type} : List (DataW H) → Nat
  | [] => 0
  | d :: r => uptoBulk d + uptoBulkAll r
def uptoBulkEntries {H : Type} : List (Lit × DataW H) → Nat
  | [] => 0
  | x :: r => uptoBulkEntry x + uptoBulkEntries r
def uptoBulkEntry {H : Type} : Lit × DataW H → Nat
  | (.string bytes, d) => bytes.length + uptoBulk d + 1
  | (_, d) => uptoBulk d + 1
 end
def uptoSmall : (H : Type) → List (DataW H) → Bool := fun _ ds => decide (uptoBulkAll ds ≤ 1048576)
def OpenSpec.upto (s : _root_.Go.ChangeSpec) : _root_.Go.OpenSpec := { _root_.Go.OpenSpec.ofChange s with cond := some uptoSmall }

/-- 'laws.FnExactRunDelay', WHERE WHAT IT READS IS OF BULK AT MOST 1048576: true; the input reads as it did. -/
def fnExactRunDelayUptoRow : OpenClaim := { program := "yteggicdhgcecpaa", sum := "a14299c3ea69b55a227274c8919c031ade2906159e97e73cf6c891971dc4b101", func := "loop.example/g01170/laws.FnExactRunDelay", spec := "fnExactRunDelay", inPlace := ["math.Float32bits", "math.Float32frombits"], unfollowed := true, recurses := true, apart := false, narrowed := true }
def FnExactRunDelayUptoSaid : Prop := fnExactRunDelayUptoRow.holds Try.pinned (OpenSpec.upto fnExactRunDelaySpec)

/-- 'laws.FnExactRunPass', WHERE WHAT IT READS IS OF BULK AT MOST 1048576: true; the input reads as it did. -/
def fnExactRunPassUptoRow : OpenClaim := { program := "yteggicdhgcecpaa", sum := "a14299c3ea69b55a227274c8919c031ade2906159e97e73cf6c891971dc4b101", func := "loop.example/g01170/laws.FnExactRunPass", spec := "fnExactRunPass", unfollowed := true, recurses := true, apart := false, narrowed := true }
def FnExactRunPassUptoSaid : Prop := fnExactRunPassUptoRow.holds Try.pinned (OpenSpec.upto fnExactRunPassSpec)

/-- 'laws.FnExactFollowLevel', WHERE WHAT IT READS IS OF BULK AT MOST 1048576: true; the input reads as it did. -/
def fnExactFollowLevelUptoRow : OpenClaim := { program := "yteggicdhgcecpaa", sum := "a14299c3ea69b55a227274c8919c031ade2906159e97e73cf6c891971dc4b101", func := "loop.example/g01170/laws.FnExactFollowLevel", spec := "fnExactFollowLevel", inPlace := ["math.Float32bits", "math.Float32frombits"], unfollowed := true, recurses := true, apart := false, narrowed := true }
def FnExactFollowLevelUptoSaid : Prop := fnExactFollowLevelUptoRow.holds Try.pinned (OpenSpec.upto fnExactFollowLevelSpec)

/-- 'laws.FnExactRunGate', WHERE WHAT IT READS IS OF BULK AT MOST 1048576: true; the input reads as it did. -/
def fnExactRunGateUptoRow : OpenClaim := { program := "yteggicdhgcecpaa", sum := "a14299c3ea69b55a227274c8919c031ade2906159e97e73cf6c891971dc4b101", func := "loop.example/g01170/laws.FnExactRunGate", spec := "fnExactRunGate", inPlace := ["math.Float32bits", "math.Float32frombits"], unfollowed := true, recurses := true, apart := false, narrowed := true }
def FnExactRunGateUptoSaid : Prop := fnExactRunGateUptoRow.holds Try.pinned (OpenSpec.upto fnExactRunGateSpec)

/-- 'laws.FnExactClipSamples', WHERE WHAT IT READS IS OF BULK AT MOST 1048576: true; the input reads as it did. -/
def fnExactClipSamplesUptoRow : OpenClaim := { program := "yteggicdhgcecpaa", sum := "a14299c3ea69b55a227274c8919c031ade2906159e97e73cf6c891971dc4b101", func := "loop.example/g01170/laws.FnExactClipSamples", spec := "fnExactClipSamples", inPlace := ["math.Float32bits", "math.Float32frombits"], unfollowed := true, recurses := true, apart := false, narrowed := true }
def FnExactClipSamplesUptoSaid : Prop := fnExactClipSamplesUptoRow.holds Try.pinned (OpenSpec.upto fnExactClipSamplesSpec)

/-- 'laws.FnExactMiddleAndSide', WHERE WHAT IT READS IS OF BULK AT MOST 1048576: true; the input reads as it did. -/
def fnExactMiddleAndSideUptoRow : OpenClaim := { program := "yteggicdhgcecpaa", sum := "a14299c3ea69b55a227274c8919c031ade2906159e97e73cf6c891971dc4b101", func := "loop.example/g01170/laws.FnExactMiddleAndSide", spec := "fnExactMiddleAndSide", unfollowed := true, recurses := true, apart := false, narrowed := true }
def FnExactMiddleAndSideUptoSaid : Prop := fnExactMiddleAndSideUptoRow.holds Try.pinned (OpenSpec.upto fnExactMiddleAndSideSpec)

/-- 'laws.FnExactLeftAndRight', WHERE WHAT IT READS IS OF BULK AT MOST 1048576: true; the input reads as it did. -/
def fnExactLeftAndRightUptoRow : OpenClaim := { program := "yteggicdhgcecpaa", sum := "a14299c3ea69b55a227274c8919c031ade2906159e97e73cf6c891971dc4b101", func := "loop.example/g01170/laws.FnExactLeftAndRight", spec := "fnExactLeftAndRight", apart := false, narrowed := true }
def FnExactLeftAndRightUptoSaid : Prop := fnExactLeftAndRightUptoRow.holds Try.pinned (OpenSpec.upto fnExactLeftAndRightSpec)

end Rows
end Go.Proofs.Yteggicdhgcecpaa
