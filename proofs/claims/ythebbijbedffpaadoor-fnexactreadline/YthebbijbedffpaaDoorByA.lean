/-
  The byte at a place of a text.
-/
import Derived.Test.YthebbijbedffpaaDoorRows
import Derived.WalkKit
import Derived.ProofKit
import Derived.OpenShut
import Derived.ShutString
namespace Go.Proofs.YthebbijbedffpaaDoor
/-- The byte at a place, as a number; 0 behind the end. -/
def byteAt (s : ByteArray) (i : Nat) : Int := if h : i < s.size then (s[i].toNat : Int) else 0
theorem byteAt_eq (s : ByteArray) (i : Nat) (h : i < s.size) : (s[i].toNat : Int) = byteAt s i := by simp [byteAt, h]
end Go.Proofs.YthebbijbedffpaaDoor
