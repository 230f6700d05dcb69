/-
  A slice of bytes as a text.
-/
import Derived.Test.YtglfhajfbdjjcaaTxtA
import Derived.Test.YtglfhajfbdjjcaaCode8
import Derived.Test.YtglfhajfbdjjcaaByteS
import Derived.Laws.BytesArg
namespace Go.Proofs.Ytglfhajfbdjjcaa
open Go.ChangeShapes Go.WideShapes Go.ChangeAt Go.RowKit
theorem kstr_of_code {w : World} {b o n c : Nat} {f : Nat → Nat} (h : Code8 w (some ⟨b, o, none⟩) n f) : (convert 30 9 (.slice (some ⟨b, o, none⟩) n c)).run Try.prog w = .ok (.string (kstr f 0 n)) w := by
  refine run_convert_bytes_arg w 30 5 Try.underlying30 Try.underlying5 b o n c ((List.range n).map fun i => ((f (0 + i) : Nat) : Int)) (by simp) (fun i hi => ?_) 9 Try.underlying9
  rw [h.at hi]
  simp [hi]
end Go.Proofs.Ytglfhajfbdjjcaa
