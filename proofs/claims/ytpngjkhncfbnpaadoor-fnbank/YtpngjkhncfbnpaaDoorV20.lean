/-
  Texts of the proof, joined: AnyH.
-/
import Derived.Test.YtpngjkhncfbnpaaDoorV04
import Derived.Deep.RegionHeld3
import Derived.Deep.RegionHeldLaw
namespace Go.Proofs.YtpngjkhncfbnpaaDoor
end Go.Proofs.YtpngjkhncfbnpaaDoor
