/-
  Contracts of the exact laws' helpers on slices of bytes: a copy, an equality, a marking, a look at the marks.
-/
import Derived.Test.YtonccbgolbcjfabDoorCode8
import Derived.OpenShut
import Derived.Deep.OwnRows
namespace Go.Proofs.YtonccbgolbcjfabDoor
open Go.ChangeShapes Go.WideShapes Go.ChangeAt Go.RowKit
theorem numEq8 {k : IntKind} {a b : Int} (h : a = b) : Value.int k a = .int k b := by rw [h]
theorem Tryd.info8 : (Tryd.prog.info? 5).map (fun i => (i.zero, i.size, i.bytes)) = some (some (.int .u8 0), 1, 1) := by kernel_rfl
theorem mkBytes (n : Nat) (hn : n ≤ 10000000) (w : World) : (Instr.makeSlice 30 (.int .i64 (n : Int)) (.int .i64 (n : Int))).run Tryd.prog w = .ok (.slice (some ⟨w.heap.size, 0, none⟩) n n) (w.alloc (.cells (madeCells #[.int .u8 0] n) 5)) :=
  run_make_row' 30 5 (.int .u8 0) 1 Tryd.underlying30 Tryd.info8 rfl .i64 .i64 n (by omega) (by omega) w
theorem u8wrap (k : Nat) : IntKind.u8.wrap (k : Int) = ((k % 256 : Nat) : Int) := by
  show ((k : Int) % 256) = _
  omega
/-- What a slice of bytes reads as when it has been marked. -/
def mk8 (i : Nat) : Nat := (i + 1) % 256
end Go.Proofs.YtonccbgolbcjfabDoor
