/-
  No cell of these rows narrows 'for every input' (looked for: loops, veiled, ifaces, maps, wideKeys, modest, calm, conditions, laid).
  DERIVED. THE GIVEN ROWS OF THIS SEAT. 12 by the template 'for every input the law returns true; each argument reads behind the call as it read before'; 0 by the template 'total and deterministic' (their statements: YtkcnjaelfajckaaTotals.lean).
  GIVEN WITH THE SEED: the statements are not yours to turn. If you find one false, say at which input.
  Laid BY PROGRAM, IN A SANDBOX (cutbox-rows.mjs): the forced cells as the released guide's own fill.sh prints them over the translation 958d7ff79a64cbd6… (all of the seat's roots in one cut). By AI agents, Wed Nov 11 2026. No macro, syntax, notation, axiom, sorry.
-/
import Derived.Test.YtkcnjaelfajckaaChecked
import GoSem.Claim
import GoSem.ClaimJoined
import GoSem.ClaimMapViews
import Derived.JoinedTies
import Derived.KernelRfl
namespace Go.Proofs.Ytkcnjaelfajckaa
/- THE CELL 'sum', in the pinned program and in every row, IS THE sha256 OF THE DUMP (.gsa) THAT YtkcnjaelfajckaaProg.lean LOADS. Nothing in Lean hashes anything: it is a label: what it is worth is what the hold of that sum in a sandbox is worth. -/
noncomputable def Try.pinned : Pinned := { name := "ytkcnjaelfajckaa", sum := "958d7ff79a64cbd672daedb1a8d98c4144a5c40339370cfd60fa93e0e00099f1", checked := Try.checked }
namespace Rows
def none {H : Type} : Left H := { results := [], args := [] }

/-- 'laws.FnExactValidDelay': WHATEVER THE INPUT: true; the input reads as it did. -/
def fnExactValidDelaySpec : ChangeSpec := { name := "fnExactValidDelay", fn := fun _ => fun
  | [d] => { results := [.lit (.bool true)], args := [d] }
  | _ => none }
def fnExactValidDelayRow : OpenClaim := { program := "ytkcnjaelfajckaa", sum := "958d7ff79a64cbd672daedb1a8d98c4144a5c40339370cfd60fa93e0e00099f1", func := "loop.example/g01170/laws.FnExactValidDelay", spec := "fnExactValidDelay", apart := false }
def FnExactValidDelaySaid : Prop := fnExactValidDelayRow.holds Try.pinned (OpenSpec.ofChange fnExactValidDelaySpec)

/-- ITS FALSE NEIGHBOUR: 'it returns false'. Refute it at one input. -/
def fnExactValidDelayWrong : ChangeSpec := { name := "fnExactValidDelay", fn := fun _ => fun
  | [d] => { results := [.lit (.bool false)], args := [d] }
  | _ => none }
def FnExactValidDelayWrongFalsely : Prop := fnExactValidDelayRow.holds Try.pinned (OpenSpec.ofChange fnExactValidDelayWrong)

/-- 'laws.FnExactEmptyLine': WHATEVER THE INPUT: true; the input reads as it did. -/
def fnExactEmptyLineSpec : ChangeSpec := { name := "fnExactEmptyLine", fn := fun _ => fun
  | [d] => { results := [.lit (.bool true)], args := [d] }
  | _ => none }
def fnExactEmptyLineRow : OpenClaim := { program := "ytkcnjaelfajckaa", sum := "958d7ff79a64cbd672daedb1a8d98c4144a5c40339370cfd60fa93e0e00099f1", func := "loop.example/g01170/laws.FnExactEmptyLine", spec := "fnExactEmptyLine", apart := false }
def FnExactEmptyLineSaid : Prop := fnExactEmptyLineRow.holds Try.pinned (OpenSpec.ofChange fnExactEmptyLineSpec)

/-- ITS FALSE NEIGHBOUR: 'it returns false'. Refute it at one input. -/
def fnExactEmptyLineWrong : ChangeSpec := { name := "fnExactEmptyLine", fn := fun _ => fun
  | [d] => { results := [.lit (.bool false)], args := [d] }
  | _ => none }
def FnExactEmptyLineWrongFalsely : Prop := fnExactEmptyLineRow.holds Try.pinned (OpenSpec.ofChange fnExactEmptyLineWrong)

/-- 'laws.FnExactRunDelay': WHATEVER THE INPUT: true; the input reads as it did. -/
def fnExactRunDelaySpec : ChangeSpec := { name := "fnExactRunDelay", fn := fun _ => fun
  | [d1, d2, d3] => { results := [.lit (.bool true)], args := [d1, d2, d3] }
  | _ => none }
def fnExactRunDelayRow : OpenClaim := { program := "ytkcnjaelfajckaa", sum := "958d7ff79a64cbd672daedb1a8d98c4144a5c40339370cfd60fa93e0e00099f1", func := "loop.example/g01170/laws.FnExactRunDelay", spec := "fnExactRunDelay", inPlace := ["math.Float32bits", "math.Float32frombits"], unfollowed := true, recurses := true, apart := false }
def FnExactRunDelaySaid : Prop := fnExactRunDelayRow.holds Try.pinned (OpenSpec.ofChange fnExactRunDelaySpec)

/-- ITS FALSE NEIGHBOUR: 'it returns false'. Refute it at one input. -/
def fnExactRunDelayWrong : ChangeSpec := { name := "fnExactRunDelay", fn := fun _ => fun
  | [d1, d2, d3] => { results := [.lit (.bool false)], args := [d1, d2, d3] }
  | _ => none }
def FnExactRunDelayWrongFalsely : Prop := fnExactRunDelayRow.holds Try.pinned (OpenSpec.ofChange fnExactRunDelayWrong)

/-- 'laws.FnExactRunPass': WHATEVER THE INPUT: true; the input reads as it did. -/
def fnExactRunPassSpec : ChangeSpec := { name := "fnExactRunPass", fn := fun _ => fun
  | [d1, d2, d3] => { results := [.lit (.bool true)], args := [d1, d2, d3] }
  | _ => none }
def fnExactRunPassRow : OpenClaim := { program := "ytkcnjaelfajckaa", sum := "958d7ff79a64cbd672daedb1a8d98c4144a5c40339370cfd60fa93e0e00099f1", func := "loop.example/g01170/laws.FnExactRunPass", spec := "fnExactRunPass", unfollowed := true, recurses := true, apart := false }
def FnExactRunPassSaid : Prop := fnExactRunPassRow.holds Try.pinned (OpenSpec.ofChange fnExactRunPassSpec)

/-- ITS FALSE NEIGHBOUR: 'it returns false'. Refute it at one input. -/
def fnExactRunPassWrong : ChangeSpec := { name := "fnExactRunPass", fn := fun _ => fun
  | [d1, d2, d3] => { results := [.lit (.bool false)], args := [d1, d2, d3] }
  | _ => none }
def FnExactRunPassWrongFalsely : Prop := fnExactRunPassRow.holds Try.pinned (OpenSpec.ofChange fnExactRunPassWrong)

/-- 'laws.FnExactValidRoom': WHATEVER THE INPUT: true; the input reads as it did. -/
def fnExactValidRoomSpec : ChangeSpec := { name := "fnExactValidRoom", fn := fun _ => fun
  | [d] => { results := [.lit (.bool true)], args := [d] }
  | _ => none }
def fnExactValidRoomRow : OpenClaim := { program := "ytkcnjaelfajckaa", sum := "958d7ff79a64cbd672daedb1a8d98c4144a5c40339370cfd60fa93e0e00099f1", func := "loop.example/g01170/laws.FnExactValidRoom", spec := "fnExactValidRoom", unfollowed := true, recurses := true, apart := false }
def FnExactValidRoomSaid : Prop := fnExactValidRoomRow.holds Try.pinned (OpenSpec.ofChange fnExactValidRoomSpec)

/-- ITS FALSE NEIGHBOUR: 'it returns false'. Refute it at one input. -/
def fnExactValidRoomWrong : ChangeSpec := { name := "fnExactValidRoom", fn := fun _ => fun
  | [d] => { results := [.lit (.bool false)], args := [d] }
  | _ => none }
def FnExactValidRoomWrongFalsely : Prop := fnExactValidRoomRow.holds Try.pinned (OpenSpec.ofChange fnExactValidRoomWrong)

/-- 'laws.FnExactEmptyRoom': WHATEVER THE INPUT: true; the input reads as it did. -/
def fnExactEmptyRoomSpec : ChangeSpec := { name := "fnExactEmptyRoom", fn := fun _ => fun
  | [d] => { results := [.lit (.bool true)], args := [d] }
  | _ => none }
def fnExactEmptyRoomRow : OpenClaim := { program := "ytkcnjaelfajckaa", sum := "958d7ff79a64cbd672daedb1a8d98c4144a5c40339370cfd60fa93e0e00099f1", func := "loop.example/g01170/laws.FnExactEmptyRoom", spec := "fnExactEmptyRoom", unfollowed := true, recurses := true, apart := false }
def FnExactEmptyRoomSaid : Prop := fnExactEmptyRoomRow.holds Try.pinned (OpenSpec.ofChange fnExactEmptyRoomSpec)

/-- ITS FALSE NEIGHBOUR: 'it returns false'. Refute it at one input. -/
def fnExactEmptyRoomWrong : ChangeSpec := { name := "fnExactEmptyRoom", fn := fun _ => fun
  | [d] => { results := [.lit (.bool false)], args := [d] }
  | _ => none }
def FnExactEmptyRoomWrongFalsely : Prop := fnExactEmptyRoomRow.holds Try.pinned (OpenSpec.ofChange fnExactEmptyRoomWrong)

/-- 'laws.FnExactRunRoom': WHATEVER THE INPUT: true; the input reads as it did. -/
def fnExactRunRoomSpec : ChangeSpec := { name := "fnExactRunRoom", fn := fun _ => fun
  | [d1, d2, d3] => { results := [.lit (.bool true)], args := [d1, d2, d3] }
  | _ => none }
def fnExactRunRoomRow : OpenClaim := { program := "ytkcnjaelfajckaa", sum := "958d7ff79a64cbd672daedb1a8d98c4144a5c40339370cfd60fa93e0e00099f1", func := "loop.example/g01170/laws.FnExactRunRoom", spec := "fnExactRunRoom", inPlace := ["math.Float32bits", "math.Float32frombits"], unfollowed := true, recurses := true, apart := false }
def FnExactRunRoomSaid : Prop := fnExactRunRoomRow.holds Try.pinned (OpenSpec.ofChange fnExactRunRoomSpec)

/-- ITS FALSE NEIGHBOUR: 'it returns false'. Refute it at one input. -/
def fnExactRunRoomWrong : ChangeSpec := { name := "fnExactRunRoom", fn := fun _ => fun
  | [d1, d2, d3] => { results := [.lit (.bool false)], args := [d1, d2, d3] }
  | _ => none }
def FnExactRunRoomWrongFalsely : Prop := fnExactRunRoomRow.holds Try.pinned (OpenSpec.ofChange fnExactRunRoomWrong)

/-- 'laws.FnExactAnswerOf': WHATEVER THE INPUT: true; the input reads as it did. -/
def fnExactAnswerOfSpec : ChangeSpec := { name := "fnExactAnswerOf", fn := fun _ => fun
  | [d1, d2] => { results := [.lit (.bool true)], args := [d1, d2] }
  | _ => none }
def fnExactAnswerOfRow : OpenClaim := { program := "ytkcnjaelfajckaa", sum := "958d7ff79a64cbd672daedb1a8d98c4144a5c40339370cfd60fa93e0e00099f1", func := "loop.example/g01170/laws.FnExactAnswerOf", spec := "fnExactAnswerOf", inPlace := ["math.Float32bits", "math.Float32frombits"], unfollowed := true, recurses := true, apart := false }
def FnExactAnswerOfSaid : Prop := fnExactAnswerOfRow.holds Try.pinned (OpenSpec.ofChange fnExactAnswerOfSpec)

/-- ITS FALSE NEIGHBOUR: 'it returns false'. Refute it at one input. -/
def fnExactAnswerOfWrong : ChangeSpec := { name := "fnExactAnswerOf", fn := fun _ => fun
  | [d1, d2] => { results := [.lit (.bool false)], args := [d1, d2] }
  | _ => none }
def FnExactAnswerOfWrongFalsely : Prop := fnExactAnswerOfRow.holds Try.pinned (OpenSpec.ofChange fnExactAnswerOfWrong)

/-- 'laws.FnExactSilentFrom': WHATEVER THE INPUT: true; the input reads as it did. -/
def fnExactSilentFromSpec : ChangeSpec := { name := "fnExactSilentFrom", fn := fun _ => fun
  | [d1, d2] => { results := [.lit (.bool true)], args := [d1, d2] }
  | _ => none }
def fnExactSilentFromRow : OpenClaim := { program := "ytkcnjaelfajckaa", sum := "958d7ff79a64cbd672daedb1a8d98c4144a5c40339370cfd60fa93e0e00099f1", func := "loop.example/g01170/laws.FnExactSilentFrom", spec := "fnExactSilentFrom", inPlace := ["math.Float32bits", "math.Float32frombits"], unfollowed := true, recurses := true, apart := false }
def FnExactSilentFromSaid : Prop := fnExactSilentFromRow.holds Try.pinned (OpenSpec.ofChange fnExactSilentFromSpec)

/-- ITS FALSE NEIGHBOUR: 'it returns false'. Refute it at one input. -/
def fnExactSilentFromWrong : ChangeSpec := { name := "fnExactSilentFrom", fn := fun _ => fun
  | [d1, d2] => { results := [.lit (.bool false)], args := [d1, d2] }
  | _ => none }
def FnExactSilentFromWrongFalsely : Prop := fnExactSilentFromRow.holds Try.pinned (OpenSpec.ofChange fnExactSilentFromWrong)

/-- 'laws.FnExactValidTaps': WHATEVER THE INPUT: true; the input reads as it did. -/
def fnExactValidTapsSpec : ChangeSpec := { name := "fnExactValidTaps", fn := fun _ => fun
  | [d] => { results := [.lit (.bool true)], args := [d] }
  | _ => none }
def fnExactValidTapsRow : OpenClaim := { program := "ytkcnjaelfajckaa", sum := "958d7ff79a64cbd672daedb1a8d98c4144a5c40339370cfd60fa93e0e00099f1", func := "loop.example/g01170/laws.FnExactValidTaps", spec := "fnExactValidTaps", unfollowed := true, recurses := true, apart := false }
def FnExactValidTapsSaid : Prop := fnExactValidTapsRow.holds Try.pinned (OpenSpec.ofChange fnExactValidTapsSpec)

/-- ITS FALSE NEIGHBOUR: 'it returns false'. Refute it at one input. -/
def fnExactValidTapsWrong : ChangeSpec := { name := "fnExactValidTaps", fn := fun _ => fun
  | [d] => { results := [.lit (.bool false)], args := [d] }
  | _ => none }
def FnExactValidTapsWrongFalsely : Prop := fnExactValidTapsRow.holds Try.pinned (OpenSpec.ofChange fnExactValidTapsWrong)

/-- 'laws.FnExactRunTaps': WHATEVER THE INPUT: true; the input reads as it did. -/
def fnExactRunTapsSpec : ChangeSpec := { name := "fnExactRunTaps", fn := fun _ => fun
  | [d1, d2, d3] => { results := [.lit (.bool true)], args := [d1, d2, d3] }
  | _ => none }
def fnExactRunTapsRow : OpenClaim := { program := "ytkcnjaelfajckaa", sum := "958d7ff79a64cbd672daedb1a8d98c4144a5c40339370cfd60fa93e0e00099f1", func := "loop.example/g01170/laws.FnExactRunTaps", spec := "fnExactRunTaps", unfollowed := true, recurses := true, apart := false }
def FnExactRunTapsSaid : Prop := fnExactRunTapsRow.holds Try.pinned (OpenSpec.ofChange fnExactRunTapsSpec)

/-- ITS FALSE NEIGHBOUR: 'it returns false'. Refute it at one input. -/
def fnExactRunTapsWrong : ChangeSpec := { name := "fnExactRunTaps", fn := fun _ => fun
  | [d1, d2, d3] => { results := [.lit (.bool false)], args := [d1, d2, d3] }
  | _ => none }
def FnExactRunTapsWrongFalsely : Prop := fnExactRunTapsRow.holds Try.pinned (OpenSpec.ofChange fnExactRunTapsWrong)

/-- 'laws.FnExactRunChorus': WHATEVER THE INPUT: true; the input reads as it did. -/
def fnExactRunChorusSpec : ChangeSpec := { name := "fnExactRunChorus", fn := fun _ => fun
  | [d1, d2, d3, d4, d5] => { results := [.lit (.bool true)], args := [d1, d2, d3, d4, d5] }
  | _ => none }
def fnExactRunChorusRow : OpenClaim := { program := "ytkcnjaelfajckaa", sum := "958d7ff79a64cbd672daedb1a8d98c4144a5c40339370cfd60fa93e0e00099f1", func := "loop.example/g01170/laws.FnExactRunChorus", spec := "fnExactRunChorus", unfollowed := true, recurses := true, apart := false }
def FnExactRunChorusSaid : Prop := fnExactRunChorusRow.holds Try.pinned (OpenSpec.ofChange fnExactRunChorusSpec)

/-- ITS FALSE NEIGHBOUR: 'it returns false'. Refute it at one input. -/
def fnExactRunChorusWrong : ChangeSpec := { name := "fnExactRunChorus", fn := fun _ => fun
  | [d1, d2, d3, d4, d5] => { results := [.lit (.bool false)], args := [d1, d2, d3, d4, d5] }
  | _ => none }
def FnExactRunChorusWrongFalsely : Prop := fnExactRunChorusRow.holds Try.pinned (OpenSpec.ofChange fnExactRunChorusWrong)

/- THE SECOND FORM. 'bulk': how many values and letters a reading holds, each counted each time it is reached (what is shared counts as often as it is met; a slice's spare places count too). A statement '..UptoSaid' is the law's where the arguments, and the package variables that the reading takes, are together of bulk at most 1048576: NARROWER than '..Said'. Prove '..Said' where nothing that the law and all that it calls make is longer than what came in: it says more and counts as full. Else prove '..UptoSaid'. A law counts once. -/
mutual
def uptoBulk {H : Type} : DataW H → Nat
  | .lit (.string bytes) => bytes.length + 1
  | .lit _ => 1
  | .nil => 1
  | .ptr d => uptoBulk d + 1
  | .slice elems spare => uptoBulkAll elems + uptoBulkAll spare + 1
  | .agg parts => uptoBulkAll parts + 1
  | .iface _ d => uptoBulk d + 1
  | .map entries => uptoBulkEntries entries + 1
  | .held _ => 1
def uptoBulkAll {H : Type} : List (DataW H) → Nat
  | [] => 0
  | d :: r => uptoBulk d + uptoBulkAll r
def uptoBulkEntries {H : Type} : List (Lit × DataW H) → Nat
  | [] => 0
  | x :: r => uptoBulkEntry x + uptoBulkEntries r
def uptoBulkEntry {H : Type} : Lit × DataW H → Nat
  | (.string bytes, d) => bytes.length + uptoBulk d + 1
  | (_, d) => uptoBulk d + 1
 end
def uptoSmall : (H : Type) → List (DataW H) → Bool := fun _ ds => decide (uptoBulkAll ds ≤ 1048576)
def OpenSpec.upto (s : _root_.Go.ChangeSpec) : _root_.Go.OpenSpec := { _root_.Go.OpenSpec.ofChange s with cond := some uptoSmall }

/-- 'laws.FnExactValidDelay', WHERE WHAT IT READS IS OF BULK AT MOST 1048576: true; the input reads as it did. -/
def fnExactValidDelayUptoRow : OpenClaim := { program := "ytkcnjaelfajckaa", sum := "958d7ff79a64cbd672daedb1a8d98c4144a5c40339370cfd60fa93e0e00099f1", func := "loop.example/g01170/laws.FnExactValidDelay", spec := "fnExactValidDelay", apart := false, narrowed := true }
def FnExactValidDelayUptoSaid : Prop := fnExactValidDelayUptoRow.holds Try.pinned (OpenSpec.upto fnExactValidDelaySpec)

/-- 'laws.FnExactEmptyLine', WHERE WHAT IT READS IS OF BULK AT MOST 1048576: true; the input reads as it did. -/
def fnExactEmptyLineUptoRow : OpenClaim := { program := "ytkcnjaelfajckaa", sum := "958d7ff79a64cbd672daedb1a8d98c4144a5c40339370cfd60fa93e0e00099f1", func := "loop.example/g01170/laws.FnExactEmptyLine", spec := "fnExactEmptyLine", apart := false, narrowed := true }
def FnExactEmptyLineUptoSaid : Prop := fnExactEmptyLineUptoRow.holds Try.pinned (OpenSpec.upto fnExactEmptyLineSpec)

/-- 'laws.FnExactRunDelay', WHERE WHAT IT READS IS OF BULK AT MOST 1048576: true; the input reads as it did. -/
def fnExactRunDelayUptoRow : OpenClaim := { program := "ytkcnjaelfajckaa", sum := "958d7ff79a64cbd672daedb1a8d98c4144a5c40339370cfd60fa93e0e00099f1", func := "loop.example/g01170/laws.FnExactRunDelay", spec := "fnExactRunDelay", inPlace := ["math.Float32bits", "math.Float32frombits"], unfollowed := true, recurses := true, apart := false, narrowed := true }
def FnExactRunDelayUptoSaid : Prop := fnExactRunDelayUptoRow.holds Try.pinned (OpenSpec.upto fnExactRunDelaySpec)

/-- 'laws.FnExactRunPass', WHERE WHAT IT READS IS OF BULK AT MOST 1048576: true; the input reads as it did. -/
def fnExactRunPassUptoRow : OpenClaim := { program := "ytkcnjaelfajckaa", sum := "958d7ff79a64cbd672daedb1a8d98c4144a5c40339370cfd60fa93e0e00099f1", func := "loop.example/g01170/laws.FnExactRunPass", spec := "fnExactRunPass", unfollowed := true, recurses := true, apart := false, narrowed := true }
def FnExactRunPassUptoSaid : Prop := fnExactRunPassUptoRow.holds Try.pinned (OpenSpec.upto fnExactRunPassSpec)

/-- 'laws.FnExactValidRoom', WHERE WHAT IT READS IS OF BULK AT MOST 1048576: true; the input reads as it did. -/
def fnExactValidRoomUptoRow : OpenClaim := { program := "ytkcnjaelfajckaa", sum := "958d7ff79a64cbd672daedb1a8d98c4144a5c40339370cfd60fa93e0e00099f1", func := "loop.example/g01170/laws.FnExactValidRoom", spec := "fnExactValidRoom", unfollowed := true, recurses := true, apart := false, narrowed := true }
def FnExactValidRoomUptoSaid : Prop := fnExactValidRoomUptoRow.holds Try.pinned (OpenSpec.upto fnExactValidRoomSpec)

/-- 'laws.FnExactEmptyRoom', WHERE WHAT IT READS IS OF BULK AT MOST 1048576: true; the input reads as it did. -/
def fnExactEmptyRoomUptoRow : OpenClaim := { program := "ytkcnjaelfajckaa", sum := "958d7ff79a64cbd672daedb1a8d98c4144a5c40339370cfd60fa93e0e00099f1", func := "loop.example/g01170/laws.FnExactEmptyRoom", spec := "fnExactEmptyRoom", unfollowed := true, recurses := true, apart := false, narrowed := true }
def FnExactEmptyRoomUptoSaid : Prop := fnExactEmptyRoomUptoRow.holds Try.pinned (OpenSpec.upto fnExactEmptyRoomSpec)

/-- 'laws.FnExactRunRoom', WHERE WHAT IT READS IS OF BULK AT MOST 1048576: true; the input reads as it did. -/
def fnExactRunRoomUptoRow : OpenClaim := { program := "ytkcnjaelfajckaa", sum := "958d7ff79a64cbd672daedb1a8d98c4144a5c40339370cfd60fa93e0e00099f1", func := "loop.example/g01170/laws.FnExactRunRoom", spec := "fnExactRunRoom", inPlace := ["math.Float32bits", "math.Float32frombits"], unfollowed := true, recurses := true, apart := false, narrowed := true }
def FnExactRunRoomUptoSaid : Prop := fnExactRunRoomUptoRow.holds Try.pinned (OpenSpec.upto fnExactRunRoomSpec)

/-- 'laws.FnExactAnswerOf', WHERE WHAT IT READS IS OF BULK AT MOST 1048576: true; the input reads as it did. -/
def fnExactAnswerOfUptoRow : OpenClaim := { program := "ytkcnjaelfajckaa", sum := "958d7ff79a64cbd672daedb1a8d98c4144a5c40339370cfd60fa93e0e00099f1", func := "loop.example/g01170/laws.FnExactAnswerOf", spec := "fnExactAnswerOf", inPlace := ["math.Float32bits", "math.Float32frombits"], unfollowed := true, recurses := true, apart := false, narrowed := true }
def FnExactAnswerOfUptoSaid : Prop := fnExactAnswerOfUptoRow.holds Try.pinned (OpenSpec.upto fnExactAnswerOfSpec)

/-- 'laws.FnExactSilentFrom', WHERE WHAT IT READS IS OF BULK AT MOST 1048576: true; the input reads as it did. -/
def fnExactSilentFromUptoRow : OpenClaim := { program := "ytkcnjaelfajckaa", sum := "958d7ff79a64cbd672daedb1a8d98c4144a5c40339370cfd60fa93e0e00099f1", func := "loop.example/g01170/laws.FnExactSilentFrom", spec := "fnExactSilentFrom", inPlace := ["math.Float32bits", "math.Float32frombits"], unfollowed := true, recurses := true, apart := false, narrowed := true }
def FnExactSilentFromUptoSaid : Prop := fnExactSilentFromUptoRow.holds Try.pinned (OpenSpec.upto fnExactSilentFromSpec)

/-- 'laws.FnExactValidTaps', WHERE WHAT IT READS IS OF BULK AT MOST 1048576: true; the input reads as it did. -/
def fnExactValidTapsUptoRow : OpenClaim := { program := "ytkcnjaelfajckaa", sum := "958d7ff79a64cbd672daedb1a8d98c4144a5c40339370cfd60fa93e0e00099f1", func := "loop.example/g01170/laws.FnExactValidTaps", spec := "fnExactValidTaps", unfollowed := true, recurses := true, apart := false, narrowed := true }
def FnExactValidTapsUptoSaid : Prop := fnExactValidTapsUptoRow.holds Try.pinned (OpenSpec.upto fnExactValidTapsSpec)

/-- 'laws.FnExactRunTaps', WHERE WHAT IT READS IS OF BULK AT MOST 1048576: true; the input reads as it did. -/
def fnExactRunTapsUptoRow : OpenClaim := { program := "ytkcnjaelfajckaa", sum := "958d7ff79a64cbd672daedb1a8d98c4144a5c40339370cfd60fa93e0e00099f1", func := "loop.example/g01170/laws.FnExactRunTaps", spec := "fnExactRunTaps", unfollowed := true, recurses := true, apart := false, narrowed := true }
def FnExactRunTapsUptoSaid : Prop := fnExactRunTapsUptoRow.holds Try.pinned (OpenSpec.upto fnExactRunTapsSpec)

/-- 'laws.FnExactRunChorus', WHERE WHAT IT READS IS OF BULK AT MOST 1048576: true; the input reads as it did. -/
def fnExactRunChorusUptoRow : OpenClaim := { program := "ytkcnjaelfajckaa", sum := "958d7ff79a64cbd672daedb1a8d98c4144a5c40339370cfd60fa93e0e00099f1", func := "loop.example/g01170/laws.FnExactRunChorus", spec := "fnExactRunChorus", unfollowed := true, recurses := true, apart := false, narrowed := true }
def FnExactRunChorusUptoSaid : Prop := fnExactRunChorusUptoRow.holds Try.pinned (OpenSpec.upto fnExactRunChorusSpec)

end Rows
end Go.Proofs.Ytkcnjaelfajckaa
