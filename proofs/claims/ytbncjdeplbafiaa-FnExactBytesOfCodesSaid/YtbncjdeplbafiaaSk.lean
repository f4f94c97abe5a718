/- The check number of a text. -/
import Derived.Test.YtbncjdeplbafiaaSm
import Derived.Test.YtbncjdeplbafiaaWb
import Derived.Lib.Hide
set_option linter.unusedVariables false
set_option linter.unusedSimpArgs false
namespace Go.Proofs.Ytbncjdeplbafiaa
open Fl Go.RowKit

/-- a text's byte, nought behind its end -/
def byteN (s : ByteArray) (k : Nat) : Nat := if h : k < s.size then s[k].toNat else 0
theorem byteN_eq {s : ByteArray} {k : Nat} (h : k < s.size) : byteN s k = s[k].toNat := by unfold byteN; rw [dif_pos h]
theorem byteN_lt (s : ByteArray) (k : Nat) : byteN s k < 256 := by
  unfold byteN; split
  · exact s[k].toNat_lt
  · omega
def chkN (s : ByteArray) (c : Nat) : Nat → Nat
  | 0 => c
  | k + 1 => (577 * chkN s c k + byteN s k + 21) % 65003
theorem chkN_lt (s : ByteArray) (c : Nat) (h : c < 65003) (k : Nat) : chkN s c k < 65003 := by
  cases k with
  | zero => exact h
  | succ k => exact Nat.mod_lt _ (by omega)

end Go.Proofs.Ytbncjdeplbafiaa
