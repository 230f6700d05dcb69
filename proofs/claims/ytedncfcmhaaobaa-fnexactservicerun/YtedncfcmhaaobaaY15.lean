/-
  Texts of the proof, joined: AnyH.
-/
import Derived.Test.YtedncfcmhaaobaaY07
import Derived.Deep.RegionHeld3
import Derived.Deep.RegionHeldLaw
namespace Go.Proofs.Ytedncfcmhaaobaa
end Go.Proofs.Ytedncfcmhaaobaa
