/-
  No cell of these rows narrows 'for every input' (looked for: loops, veiled, ifaces, maps, wideKeys, modest, calm, conditions, laid).
  DERIVED. THE GIVEN ROWS OF THIS SEAT. 4 by the template 'for every input the law returns true; each argument reads behind the call as it read before'; 0 by the template 'total and deterministic' (their statements: YtbjhioolfighdaaTotals.lean).
  GIVEN WITH THE SEED: the statements are not yours to turn. If you find one false, say at which input.
  Laid BY PROGRAM, IN A SANDBOX (cutbox-rows.mjs): the forced cells as the released guide's own fill.sh prints them over the translation de958e280bf2738e… (all of the seat's roots in one cut). By AI agents, Wed Nov 11 2026. No macro, syntax, notation, axiom, sorry.
-/
import Derived.Test.YtbjhioolfighdaaChecked
import GoSem.Claim
import GoSem.ClaimJoined
import GoSem.ClaimMapViews
import Derived.JoinedTies
import Derived.KernelRfl
namespace Go.Proofs.Ytbjhioolfighdaa
/- THE CELL 'sum', in the pinned program and in every row, IS THE sha256 OF THE DUMP (.gsa) THAT YtbjhioolfighdaaProg.lean LOADS. Nothing in Lean hashes anything: it is a label: what it is worth is what the hold of that sum in a sandbox is worth. -/
noncomputable def Try.pinned : Pinned := { name := "ytbjhioolfighdaa", sum := "de958e280bf2738e9a0d5b225d9e2055ab93d784619ebb1a76a58d55d88c1a96", checked := Try.checked }
namespace Rows
def none {H : Type} : Left H := { results := [], args := [] }

/-- 'laws.FnExactRunDelay': WHATEVER THE INPUT: true; the input reads as it did. -/
def fnExactRunDelaySpec : ChangeSpec := { name := "fnExactRunDelay", fn := fun _ => fun
  | [d1, d2, d3] => { results := [.lit (.bool true)], args := [d1, d2, d3] }
  | _ => none }
def fnExactRunDelayRow : OpenClaim := { program := "ytbjhioolfighdaa", sum := "de958e280bf2738e9a0d5b225d9e2055ab93d784619ebb1a76a58d55d88c1a96", func := "loop.example/g01170/laws.FnExactRunDelay", spec := "fnExactRunDelay", inPlace := ["math.Float32bits", "math.Float32frombits"], unfollowed := true, recurses := true, apart := false }
def FnExactRunDelaySaid : Prop := fnExactRunDelayRow.holds Try.pinned (OpenSpec.ofChange fnExactRunDelaySpec)

/-- ITS FALSE NEIGHBOUR: 'it returns false'. Refute it at one input. -/
def fnExactRunDelayWrong : ChangeSpec := { name := "fnExactRunDelay", fn := fun _ => fun
  | [d1, d2, d3] => { results := [.lit (.bool false)], args := [d1, d2, d3] }
  | _ => none }
def FnExactRunDelayWrongFalsely : Prop := fnExactRunDelayRow.holds Try.pinned (OpenSpec.ofChange fnExactRunDelayWrong)

/-- 'laws.FnExactRunPass': WHATEVER THE INPUT: true; the input reads as it did. -/
def fnExactRunPassSpec : ChangeSpec := { name := "fnExactRunPass", fn := fun _ => fun
  | [d1, d2, d3] => { results := [.lit (.bool true)], args := [d1, d2, d3] }
  | _ => none }
def fnExactRunPassRow : OpenClaim := { program := "ytbjhioolfighdaa", sum := "de958e280bf2738e9a0d5b225d9e2055ab93d784619ebb1a76a58d55d88c1a96", func := "loop.example/g01170/laws.FnExactRunPass", spec := "fnExactRunPass", unfollowed := true, recurses := true, apart := false }
def FnExactRunPassSaid : Prop := fnExactRunPassRow.holds Try.pinned (OpenSpec.ofChange fnExactRunPassSpec)

/-- ITS FALSE NEIGHBOUR: 'it returns false'. Refute it at one input. -/
def fnExactRunPassWrong : ChangeSpec := { name := "fnExactRunPass", fn := fun _ => fun
  | [d1, d2, d3] => { results := [.lit (.bool false)], args := [d1, d2, d3] }
  | _ => none }
def FnExactRunPassWrongFalsely : Prop := fnExactRunPassRow.holds Try.pinned (OpenSpec.ofChange fnExactRunPassWrong)

/-- 'laws.FnExactRunTaps': WHATEVER THE INPUT: true; the input reads as it did. -/
def fnExactRunTapsSpec : ChangeSpec := { name := "fnExactRunTaps", fn := fun _ => fun
  | [d1, d2, d3] => { results := [.lit (.bool true)], args := [d1, d2, d3] }
  | _ => none }
def fnExactRunTapsRow : OpenClaim := { program := "ytbjhioolfighdaa", sum := "de958e280bf2738e9a0d5b225d9e2055ab93d784619ebb1a76a58d55d88c1a96", func := "loop.example/g01170/laws.FnExactRunTaps", spec := "fnExactRunTaps", unfollowed := true, recurses := true, apart := false }
def FnExactRunTapsSaid : Prop := fnExactRunTapsRow.holds Try.pinned (OpenSpec.ofChange fnExactRunTapsSpec)

/-- ITS FALSE NEIGHBOUR: 'it returns false'. Refute it at one input. -/
def fnExactRunTapsWrong : ChangeSpec := { name := "fnExactRunTaps", fn := fun _ => fun
  | [d1, d2, d3] => { results := [.lit (.bool false)], args := [d1, d2, d3] }
  | _ => none }
def FnExactRunTapsWrongFalsely : Prop := fnExactRunTapsRow.holds Try.pinned (OpenSpec.ofChange fnExactRunTapsWrong)

/-- 'laws.FnExactRunChorus': WHATEVER THE INPUT: true; the input reads as it did. -/
def fnExactRunChorusSpec : ChangeSpec := { name := "fnExactRunChorus", fn := fun _ => fun
  | [d1, d2, d3, d4, d5] => { results := [.lit (.bool true)], args := [d1, d2, d3, d4, d5] }
  | _ => none }
def fnExactRunChorusRow : OpenClaim := { program := "ytbjhioolfighdaa", sum := "de958e280bf2738e9a0d5b225d9e2055ab93d784619ebb1a76a58d55d88c1a96", func := "loop.example/g01170/laws.FnExactRunChorus", spec := "fnExactRunChorus", unfollowed := true, recurses := true, apart := false }
def FnExactRunChorusSaid : Prop := fnExactRunChorusRow.holds Try.pinned (OpenSpec.ofChange fnExactRunChorusSpec)

/-- ITS FALSE NEIGHBOUR: 'it returns false'. Refute it at one input. -/
def fnExactRunChorusWrong : ChangeSpec := { name := "fnExactRunChorus", fn := fun _ => fun
  | [d1, d2, d3, d4, d5] => { results := [.lit (.bool false)], args := [d1, d2, d3, d4, d5] }
  | _ => none }
def FnExactRunChorusWrongFalsely : Prop := fnExactRunChorusRow.holds Try.pinned (OpenSpec.ofChange fnExactRunChorusWrong)

/- THE SECOND FORM. 'bulk': how many values and letters a reading holds, each counted each time it is reached (what is shared counts as often as it is met; a slice's spare places count too). A statement '..UptoSaid' is the law's where the arguments, and the package variables that the reading takes, are together of bulk at most 1048576: NARROWER than '..Said'. Prove '..Said' where nothing that the law and all that it calls make is longer than what came in: it says more and counts as full. Else prove '..UptoSaid'. A law counts once. -/
mutual
def uptoBulk {H : Type} : DataW H → Nat
  | .lit (.string bytes) => bytes.length + 1
  | .lit _ => 1
  | .nil => 1
  | .ptr d => uptoBulk d + 1
  | .slice elems spare => uptoBulkAll elems + uptoBulkAll spare + 1
  | .agg parts => uptoBulkAll parts + 1
  | .iface _ d => uptoBulk d + 1
  | .map entries => uptoBulkEntries entries + 1
  | .held _ => 1
def uptoBulkAll {H : Type} : List (DataW H) → Nat
  | [] => 0
  | d :: r => uptoBulk d + uptoBulkAll r
def uptoBulkEntries {H : Type} : List (Lit × DataW H) → Nat
  | [] => 0
  | x :: r => uptoBulkEntry x + uptoBulkEntries r
def uptoBulkEntry {H : Type} : Lit × DataW H → Nat
  | (.string bytes, d) => bytes.length + uptoBulk d + 1
  | (_, d) => uptoBulk d + 1
 end
def uptoSmall : (H : Type) → List (DataW H) → Bool := fun _ ds => decide (uptoBulkAll ds ≤ 1048576)
def OpenSpec.upto (s : _root_.Go.ChangeSpec) : _root_.Go.OpenSpec := { _root_.Go.OpenSpec.ofChange s with cond := some uptoSmall }

/-- 'laws.FnExactRunDelay', WHERE WHAT IT READS IS OF BULK AT MOST 1048576: true; the input reads as it did. -/
def fnExactRunDelayUptoRow : OpenClaim := { program := "ytbjhioolfighdaa", sum := "de958e280bf2738e9a0d5b225d9e2055ab93d784619ebb1a76a58d55d88c1a96", func := "loop.example/g01170/laws.FnExactRunDelay", spec := "fnExactRunDelay", inPlace := ["math.Float32bits", "math.Float32frombits"], unfollowed := true, recurses := true, apart := false, narrowed := true }
def FnExactRunDelayUptoSaid : Prop := fnExactRunDelayUptoRow.holds Try.pinned (OpenSpec.upto fnExactRunDelaySpec)

/-- 'laws.FnExactRunPass', WHERE WHAT IT READS IS OF BULK AT MOST 1048576: true; the input reads as it did. -/
def fnExactRunPassUptoRow : OpenClaim := { program := "ytbjhioolfighdaa", sum := "de958e280bf2738e9a0d5b225d9e2055ab93d784619ebb1a76a58d55d88c1a96", func := "loop.example/g01170/laws.FnExactRunPass", spec := "fnExactRunPass", unfollowed := true, recurses := true, apart := false, narrowed := true }
def FnExactRunPassUptoSaid : Prop := fnExactRunPassUptoRow.holds Try.pinned (OpenSpec.upto fnExactRunPassSpec)

/-- 'laws.FnExactRunTaps', WHERE WHAT IT READS IS OF BULK AT MOST 1048576: true; the input reads as it did. -/
def fnExactRunTapsUptoRow : OpenClaim := { program := "ytbjhioolfighdaa", sum := "de958e280bf2738e9a0d5b225d9e2055ab93d784619ebb1a76a58d55d88c1a96", func := "loop.example/g01170/laws.FnExactRunTaps", spec := "fnExactRunTaps", unfollowed := true, recurses := true, apart := false, narrowed := true }
def FnExactRunTapsUptoSaid : Prop := fnExactRunTapsUptoRow.holds Try.pinned (OpenSpec.upto fnExactRunTapsSpec)

/-- 'laws.FnExactRunChorus', WHERE WHAT IT READS IS OF BULK AT MOST 1048576: true; the input reads as it did. -/
def fnExactRunChorusUptoRow : OpenClaim := { program := "ytbjhioolfighdaa", sum := "de958e280bf2738e9a0d5b225d9e2055ab93d784619ebb1a76a58d55d88c1a96", func := "loop.example/g01170/laws.FnExactRunChorus", spec := "fnExactRunChorus", unfollowed := true, recurses := true, apart := false, narrowed := true }
def FnExactRunChorusUptoSaid : Prop := fnExactRunChorusUptoRow.holds Try.pinned (OpenSpec.upto fnExactRunChorusSpec)

end Rows
end Go.Proofs.Ytbjhioolfighdaa
