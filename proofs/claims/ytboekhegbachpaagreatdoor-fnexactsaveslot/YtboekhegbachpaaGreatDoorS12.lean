/-
  Texts of the proof, joined: Txt.
-/
import Derived.Test.YtboekhegbachpaaGreatDoorS11
import Derived.Test.YtboekhegbachpaaGreatDoorS05
import Derived.Laws.BytesArg
namespace Go.Proofs.YtboekhegbachpaaGreatDoor
open Go.ChangeShapes Go.WideShapes Go.ChangeAt Go.RowKit
theorem kstr_of_code {w : World} {b o n c : Nat} {f : Nat → Nat} (h : Code8 w (some ⟨b, o, none⟩) n f) : (convert 84 9 (.slice (some ⟨b, o, none⟩) n c)).run Tryz.prog w = .ok (.string (kstr f 0 n)) w := by
 refine run_convert_bytes_arg w 84 5 Tryz.underlying84 Tryz.underlying5 b o n c ((List.range n).map fun i => ((f (0 + i) : Nat) : Int)) (by simp) (fun i hi => ?_) 9 Tryz.underlying9
 rw [h.at hi]
 simp [hi]
end Go.Proofs.YtboekhegbachpaaGreatDoor
