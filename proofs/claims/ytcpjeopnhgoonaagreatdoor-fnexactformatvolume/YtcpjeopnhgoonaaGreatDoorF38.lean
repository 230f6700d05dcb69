/-
  Texts of the proof, joined.
-/
import Derived.Test.YtcpjeopnhgoonaaGreatDoorF37
import Derived.Test.YtcpjeopnhgoonaaGreatDoorF31
namespace Go.Proofs.YtcpjeopnhgoonaaGreatDoor
open Go.ChangeShapes Go.WideShapes Go.ChangeAt Go.RowKit
set_option linter.unusedVariables false
structure Z2 (b:Nat) (w:World):Prop where
 c0:w.cell? ⟨b,0,none⟩ = some (.int .i64 0)
 c1:w.cell? ⟨b,1,none⟩ = some (.string ⟨#[]⟩)
 fr:∀ i,w.frozen? ⟨b,i,none⟩ = false
 lt:b < w.heap.size
end Go.Proofs.YtcpjeopnhgoonaaGreatDoor
