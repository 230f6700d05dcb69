/-
  DERIVED. GIVEN WITH THE SEED: THE PROGRAM's TIES (one call each: nine closed facts by the kernel) AND EACH ROW's TIE, after the 31st guide's Derived/Test/Toyas{Tie, Card}.lean. No idea stands in it: it is a product of the set-up. Laid BY PROGRAM, IN A SANDBOX (cutbox-door.mjs). By AI agents, Wed Nov 11 2026. No macro, syntax, notation, axiom, sorry.
-/
import Derived.Test.YtiamaoihachhgaaGreatDoorRows
import Derived.LaidByTextLater
import Derived.SevenTiedAt
import Derived.LaidSub
import Derived.LaidOnce
namespace Go.Proofs.YtiamaoihachhgaaGreatDoor
open Go
set_option maxRecDepth 100000
theorem seatTie1 : Tryz.prog.laidByTextLater [("loop.example/g00257/impl.firstDigest", Rows.laid_loop_example_g00257_impl_firstDigest), ("loop.example/g00257/impl.roundWords", Rows.laid_loop_example_g00257_impl_roundWords), ("loop.example/g00257/impl.errNoBlock", Rows.laid_loop_example_g00257_impl_errNoBlock), ("loop.example/g00257/impl.errLongBlock", Rows.laid_loop_example_g00257_impl_errLongBlock)] [.data, .data, .sentinel, .sentinel] true :=
  Program.laidByTextLater_by_one 57 8 65 (by kernel_rfl) (by kernel_rfl) (by kernel_rfl) (by kernel_rfl) (by kernel_rfl) (by kernel_rfl) (fun _ _ => by kernel_rfl)
theorem noOwnUnsafe : Tryz.pinned.checked.prog.headLifts.contains "ownunsafe" = false := by kernel_rfl
theorem tie : Tryz.prog.laidByTextLater [("loop.example/g00257/impl.firstDigest", Rows.laid_loop_example_g00257_impl_firstDigest), ("loop.example/g00257/impl.roundWords", Rows.laid_loop_example_g00257_impl_roundWords), ("loop.example/g00257/impl.errNoBlock", Rows.laid_loop_example_g00257_impl_errNoBlock), ("loop.example/g00257/impl.errLongBlock", Rows.laid_loop_example_g00257_impl_errLongBlock)] [.data, .data, .sentinel, .sentinel] true :=
  Program.laidByTextLater.sub seatTie1 ["loop.example/g00257/impl.firstDigest", "loop.example/g00257/impl.roundWords", "loop.example/g00257/impl.errNoBlock", "loop.example/g00257/impl.errLongBlock"] (by kernel_rfl) (by kernel_rfl)
theorem fnExactEmptyRoot_row_tie : Rows.fnExactEmptyRootRow.laidByTextAt .later Tryz.pinned [.data, .data, .sentinel, .sentinel] true :=
  OpenClaim.laidByTextAt_later rfl rfl tie noOwnUnsafe
theorem fnExactEmptyRootUpto_row_tie : Rows.fnExactEmptyRootUptoRow.laidByTextAt .later Tryz.pinned [.data, .data, .sentinel, .sentinel] true :=
  OpenClaim.laidByTextAt_later rfl rfl tie noOwnUnsafe
end Go.Proofs.YtiamaoihachhgaaGreatDoor
