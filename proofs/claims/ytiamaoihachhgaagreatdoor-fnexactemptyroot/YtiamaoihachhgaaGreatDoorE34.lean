/-
  Texts of the proof, joined: OpenB, OpenAt.
-/
import Derived.Test.YtiamaoihachhgaaGreatDoorE31
import Derived.Test.YtiamaoihachhgaaGreatDoorE20
namespace Go.Proofs.YtiamaoihachhgaaGreatDoor
open Go.ChangeShapes Go.WideShapes Go.ChangeAt Go.RowKit
end Go.Proofs.YtiamaoihachhgaaGreatDoor
namespace Go.Proofs.YtiamaoihachhgaaGreatDoor
open Go.ChangeShapes Go.WideShapes Go.ChangeAt Go.RowKit
end Go.Proofs.YtiamaoihachhgaaGreatDoor
