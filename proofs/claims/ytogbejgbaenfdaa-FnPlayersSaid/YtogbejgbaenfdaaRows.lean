/-
  No cell of these rows narrows 'for every input' (looked for: loops, veiled, ifaces, maps, wideKeys, modest, calm, conditions, laid).
  DERIVED. THE GIVEN ROWS OF THIS SEAT. 5 by the template 'for every input the law returns true; each argument reads behind the call as it read before'; 0 by the template 'total and deterministic' (their statements: YtogbejgbaenfdaaTotals.lean).
  GIVEN WITH THE SEED: the statements are not yours to turn. If you find one false, say at which input.
  Laid BY PROGRAM, IN A SANDBOX (cutbox-rows.mjs): the forced cells as the released guide's own fill.sh prints them over the translation 6c278db88e7c9813… (all of the seat's roots in one cut). By AI agents, Wed Nov 11 2026. No macro, syntax, notation, axiom, sorry.
-/
import Derived.Test.YtogbejgbaenfdaaChecked
import GoSem.Claim
import GoSem.ClaimJoined
import GoSem.ClaimMapViews
import Derived.JoinedTies
import Derived.KernelRfl
namespace Go.Proofs.Ytogbejgbaenfdaa
/- THE CELL 'sum', in the pinned program and in every row, IS THE sha256 OF THE DUMP (.gsa) THAT YtogbejgbaenfdaaProg.lean LOADS. Nothing in Lean hashes anything: it is a label: what it is worth is what the hold of that sum in a sandbox is worth. -/
noncomputable def Try.pinned : Pinned := { name := "ytogbejgbaenfdaa", sum := "6c278db88e7c9813f630cc1b3e7e777eb1e049a37210e64d29d42428660407a6", checked := Try.checked }
namespace Rows
def none {H : Type} : Left H := { results := [], args := [] }

/-- 'laws.FnBits': WHATEVER THE INPUT: true; the input reads as it did. -/
def fnBitsSpec : ChangeSpec := { name := "fnBits", fn := fun _ => fun
  | [d1, d2] => { results := [.lit (.bool true)], args := [d1, d2] }
  | _ => none }
def fnBitsRow : OpenClaim := { program := "ytogbejgbaenfdaa", sum := "6c278db88e7c9813f630cc1b3e7e777eb1e049a37210e64d29d42428660407a6", func := "loop.example/g01170/laws.FnBits", spec := "fnBits", inPlace := ["math.Float32frombits", "math.Float32bits"], apart := false }
def FnBitsSaid : Prop := fnBitsRow.holds Try.pinned (OpenSpec.ofChange fnBitsSpec)

/-- ITS FALSE NEIGHBOUR: 'it returns false'. Refute it at one input. -/
def fnBitsWrong : ChangeSpec := { name := "fnBits", fn := fun _ => fun
  | [d1, d2] => { results := [.lit (.bool false)], args := [d1, d2] }
  | _ => none }
def FnBitsWrongFalsely : Prop := fnBitsRow.holds Try.pinned (OpenSpec.ofChange fnBitsWrong)

/-- 'laws.FnFlushed': WHATEVER THE INPUT: true; the input reads as it did. -/
def fnFlushedSpec : ChangeSpec := { name := "fnFlushed", fn := fun _ => fun
  | [d1, d2] => { results := [.lit (.bool true)], args := [d1, d2] }
  | _ => none }
def fnFlushedRow : OpenClaim := { program := "ytogbejgbaenfdaa", sum := "6c278db88e7c9813f630cc1b3e7e777eb1e049a37210e64d29d42428660407a6", func := "loop.example/g01170/laws.FnFlushed", spec := "fnFlushed", inPlace := ["math.Float32frombits", "math.Float32bits"], apart := false }
def FnFlushedSaid : Prop := fnFlushedRow.holds Try.pinned (OpenSpec.ofChange fnFlushedSpec)

/-- ITS FALSE NEIGHBOUR: 'it returns false'. Refute it at one input. -/
def fnFlushedWrong : ChangeSpec := { name := "fnFlushed", fn := fun _ => fun
  | [d1, d2] => { results := [.lit (.bool false)], args := [d1, d2] }
  | _ => none }
def FnFlushedWrongFalsely : Prop := fnFlushedRow.holds Try.pinned (OpenSpec.ofChange fnFlushedWrong)

/-- 'laws.FnGated': WHATEVER THE INPUT: true; the input reads as it did. -/
def fnGatedSpec : ChangeSpec := { name := "fnGated", fn := fun _ => fun
  | [d1, d2] => { results := [.lit (.bool true)], args := [d1, d2] }
  | _ => none }
def fnGatedRow : OpenClaim := { program := "ytogbejgbaenfdaa", sum := "6c278db88e7c9813f630cc1b3e7e777eb1e049a37210e64d29d42428660407a6", func := "loop.example/g01170/laws.FnGated", spec := "fnGated", inPlace := ["math.Float32frombits", "math.Float32bits"], unfollowed := true, recurses := true, apart := false }
def FnGatedSaid : Prop := fnGatedRow.holds Try.pinned (OpenSpec.ofChange fnGatedSpec)

/-- ITS FALSE NEIGHBOUR: 'it returns false'. Refute it at one input. -/
def fnGatedWrong : ChangeSpec := { name := "fnGated", fn := fun _ => fun
  | [d1, d2] => { results := [.lit (.bool false)], args := [d1, d2] }
  | _ => none }
def FnGatedWrongFalsely : Prop := fnGatedRow.holds Try.pinned (OpenSpec.ofChange fnGatedWrong)

/-- 'laws.FnFolds': WHATEVER THE INPUT: true; the input reads as it did. -/
def fnFoldsSpec : ChangeSpec := { name := "fnFolds", fn := fun _ => fun
  | [d1, d2] => { results := [.lit (.bool true)], args := [d1, d2] }
  | _ => none }
def fnFoldsRow : OpenClaim := { program := "ytogbejgbaenfdaa", sum := "6c278db88e7c9813f630cc1b3e7e777eb1e049a37210e64d29d42428660407a6", func := "loop.example/g01170/laws.FnFolds", spec := "fnFolds", inPlace := ["math.Float32frombits", "math.Float32bits"], apart := false }
def FnFoldsSaid : Prop := fnFoldsRow.holds Try.pinned (OpenSpec.ofChange fnFoldsSpec)

/-- ITS FALSE NEIGHBOUR: 'it returns false'. Refute it at one input. -/
def fnFoldsWrong : ChangeSpec := { name := "fnFolds", fn := fun _ => fun
  | [d1, d2] => { results := [.lit (.bool false)], args := [d1, d2] }
  | _ => none }
def FnFoldsWrongFalsely : Prop := fnFoldsRow.holds Try.pinned (OpenSpec.ofChange fnFoldsWrong)

/-- 'laws.FnPlayers': WHATEVER THE INPUT: true; the input reads as it did. -/
def fnPlayersSpec : ChangeSpec := { name := "fnPlayers", fn := fun _ => fun
  | [d1, d2] => { results := [.lit (.bool true)], args := [d1, d2] }
  | _ => none }
def fnPlayersRow : OpenClaim := { program := "ytogbejgbaenfdaa", sum := "6c278db88e7c9813f630cc1b3e7e777eb1e049a37210e64d29d42428660407a6", func := "loop.example/g01170/laws.FnPlayers", spec := "fnPlayers", inPlace := ["math.Float32frombits", "math.Float32bits"], unfollowed := true, recurses := true, apart := false }
def FnPlayersSaid : Prop := fnPlayersRow.holds Try.pinned (OpenSpec.ofChange fnPlayersSpec)

/-- ITS FALSE NEIGHBOUR: 'it returns false'. Refute it at one input. -/
def fnPlayersWrong : ChangeSpec := { name := "fnPlayers", fn := fun _ => fun
  | [d1, d2] => { results := [.lit (.bool false)], args := [d1, d2] }
  | _ => none }
def FnPlayersWrongFalsely : Prop := fnPlayersRow.holds Try.pinned (OpenSpec.ofChange fnPlayersWrong)

/- THE SECOND FORM. 'bulk': how many values and letters a reading holds, each counted each time it is reached (what is shared counts as often as it is met; a slice's spare places count too). A statement '..UptoSaid' is the law's where the arguments, and the package variables that the reading takes, are together of bulk at most 1048576: NARROWER than '..Said'. Prove '..Said' where nothing that the law and all that it calls make is longer than what came in: it says more and counts as full. Else prove '..UptoSaid'. A law counts once. -/
mutual
def uptoBulk {H : Type} : DataW H → Nat
  | .lit (.string bytes) => bytes.length + 1
  | .lit _ => 1
  | .nil => 1
  | .ptr d => uptoBulk d + 1
  | .slice elems spare => uptoBulkAll elems + uptoBulkAll spare + 1
  | .agg parts => uptoBulkAll parts + 1
  | .iface _ d => uptoBulk d + 1
  | .map entries => uptoBulkEntries entries + 1
  | .held _ => 1
def uptoBulkAll {H : Type} : List (DataW H) → Nat
  | [] => 0
  | d :: r => uptoBulk d + uptoBulkAll r
def uptoBulkEntries {H : Type} : List (Lit × DataW H) → Nat
  | [] => 0
  | x :: r => uptoBulkEntry x + uptoBulkEntries r
def uptoBulkEntry {H : Type} : Lit × DataW H → Nat
  | (.string bytes, d) => bytes.length + uptoBulk d + 1
  | (_, d) => uptoBulk d + 1
 end
def uptoSmall : (H : Type) → List (DataW H) → Bool := fun _ ds => decide (uptoBulkAll ds ≤ 1048576)
def OpenSpec.upto (s : _root_.Go.ChangeSpec) : _root_.Go.OpenSpec := { _root_.Go.OpenSpec.ofChange s with cond := some uptoSmall }

/-- 'laws.FnBits', WHERE WHAT IT READS IS OF BULK AT MOST 1048576: true; the input reads as it did. -/
def fnBitsUptoRow : OpenClaim := { program := "ytogbejgbaenfdaa", sum := "6c278db88e7c9813f630cc1b3e7e777eb1e049a37210e64d29d42428660407a6", func := "loop.example/g01170/laws.FnBits", spec := "fnBits", inPlace := ["math.Float32frombits", "math.Float32bits"], apart := false, narrowed := true }
def FnBitsUptoSaid : Prop := fnBitsUptoRow.holds Try.pinned (OpenSpec.upto fnBitsSpec)

/-- 'laws.FnFlushed', WHERE WHAT IT READS IS OF BULK AT MOST 1048576: true; the input reads as it did. -/
def fnFlushedUptoRow : OpenClaim := { program := "ytogbejgbaenfdaa", sum := "6c278db88e7c9813f630cc1b3e7e777eb1e049a37210e64d29d42428660407a6", func := "loop.example/g01170/laws.FnFlushed", spec := "fnFlushed", inPlace := ["math.Float32frombits", "math.Float32bits"], apart := false, narrowed := true }
def FnFlushedUptoSaid : Prop := fnFlushedUptoRow.holds Try.pinned (OpenSpec.upto fnFlushedSpec)

/-- 'laws.FnGated', WHERE WHAT IT READS IS OF BULK AT MOST 1048576: true; the input reads as it did. -/
def fnGatedUptoRow : OpenClaim := { program := "ytogbejgbaenfdaa", sum := "6c278db88e7c9813f630cc1b3e7e777eb1e049a37210e64d29d42428660407a6", func := "loop.example/g01170/laws.FnGated", spec := "fnGated", inPlace := ["math.Float32frombits", "math.Float32bits"], unfollowed := true, recurses := true, apart := false, narrowed := true }
def FnGatedUptoSaid : Prop := fnGatedUptoRow.holds Try.pinned (OpenSpec.upto fnGatedSpec)

/-- 'laws.FnFolds', WHERE WHAT IT READS IS OF BULK AT MOST 1048576: true; the input reads as it did. -/
def fnFoldsUptoRow : OpenClaim := { program := "ytogbejgbaenfdaa", sum := "6c278db88e7c9813f630cc1b3e7e777eb1e049a37210e64d29d42428660407a6", func := "loop.example/g01170/laws.FnFolds", spec := "fnFolds", inPlace := ["math.Float32frombits", "math.Float32bits"], apart := false, narrowed := true }
def FnFoldsUptoSaid : Prop := fnFoldsUptoRow.holds Try.pinned (OpenSpec.upto fnFoldsSpec)

/-- 'laws.FnPlayers', WHERE WHAT IT READS IS OF BULK AT MOST 1048576: true; the input reads as it did. -/
def fnPlayersUptoRow : OpenClaim := { program := "ytogbejgbaenfdaa", sum := "6c278db88e7c9813f630cc1b3e7e777eb1e049a37210e64d29d42428660407a6", func := "loop.example/g01170/laws.FnPlayers", spec := "fnPlayers", inPlace := ["math.Float32frombits", "math.Float32bits"], unfollowed := true, recurses := true, apart := false, narrowed := true }
def FnPlayersUptoSaid : Prop := fnPlayersUptoRow.holds Try.pinned (OpenSpec.upto fnPlayersSpec)

end Rows
end Go.Proofs.Ytogbejgbaenfdaa
