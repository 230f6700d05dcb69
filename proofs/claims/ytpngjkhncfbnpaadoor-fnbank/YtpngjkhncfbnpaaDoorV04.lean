/-
  Texts of the proof, joined: Arr.
-/
import Derived.WalkKit
import Derived.Deep.MidRow
namespace Go.Proofs.YtpngjkhncfbnpaaDoor
end Go.Proofs.YtpngjkhncfbnpaaDoor
