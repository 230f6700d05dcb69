/-
  Texts of the proof, joined: Arr.
-/
import Derived.WalkKit
import Derived.Deep.MidRow
namespace Go.Proofs.Ytedncfcmhaaobaa
end Go.Proofs.Ytedncfcmhaaobaa
