/-
  What an index of a column (an array of four bytes, as a value) is.
-/
import Derived.Test.YtbhlgcenfanicaaRows
import Derived.Test.YtbhlgcenfanicaaArr
import Derived.WalkKit
import Derived.ProofKit
namespace Go.Proofs.Ytbhlgcenfanicaa
open Go.ChangeShapes Go.WideShapes Go.ChangeAt Go.RowKit
theorem Try.sizeU8 : (Try.prog.info? 5).map (·.size) = some 1 := by kernel_rfl
theorem idx0 (x0 x1 x2 x3 : Int) (w : World) : (Instr.index 92 (.agg #[.int .u8 x0, .int .u8 x1, .int .u8 x2, .int .u8 x3]) (.int .i64 0)).run Try.prog w = .ok (.int .u8 x0) w := run_index_flat (k := 0) Try.underlying92 Try.underlying5 rfl Try.sizeU8 (by omega) rfl w
theorem idx1 (x0 x1 x2 x3 : Int) (w : World) : (Instr.index 92 (.agg #[.int .u8 x0, .int .u8 x1, .int .u8 x2, .int .u8 x3]) (.int .i64 1)).run Try.prog w = .ok (.int .u8 x1) w := run_index_flat (k := 1) Try.underlying92 Try.underlying5 rfl Try.sizeU8 (by omega) rfl w
theorem idx2 (x0 x1 x2 x3 : Int) (w : World) : (Instr.index 92 (.agg #[.int .u8 x0, .int .u8 x1, .int .u8 x2, .int .u8 x3]) (.int .i64 2)).run Try.prog w = .ok (.int .u8 x2) w := run_index_flat (k := 2) Try.underlying92 Try.underlying5 rfl Try.sizeU8 (by omega) rfl w
theorem idx3 (x0 x1 x2 x3 : Int) (w : World) : (Instr.index 92 (.agg #[.int .u8 x0, .int .u8 x1, .int .u8 x2, .int .u8 x3]) (.int .i64 3)).run Try.prog w = .ok (.int .u8 x3) w := run_index_flat (k := 3) Try.underlying92 Try.underlying5 rfl Try.sizeU8 (by omega) rfl w
end Go.Proofs.Ytbhlgcenfanicaa
