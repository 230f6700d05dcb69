/-
  DERIVED. GIVEN WITH THE SEED: THE PROGRAM's TIES (one call each: nine closed facts by the kernel) AND EACH ROW's TIE, after the 31st guide's Derived/Test/Toyas{Tie, Card}.lean. No idea stands in it: it is a product of the set-up. Laid BY PROGRAM, IN A SANDBOX (cutbox-door.mjs). By AI agents, Wed Nov 11 2026. No macro, syntax, notation, axiom, sorry.
-/
import Derived.Test.YtgdfhgepbamhmaaDoorRows
import Derived.LaidByTextLater
import Derived.SevenTiedAt
import Derived.LaidSub
import Derived.LaidOnce
namespace Go.Proofs.YtgdfhgepbamhmaaDoor
open Go
set_option maxRecDepth 100000
theorem seatTie1 : Tryd.prog.laidByTextLater [("loop.example/g00257/impl.errNoBlock", Rows.laid_loop_example_g00257_impl_errNoBlock), ("loop.example/g00257/impl.errLongBlock", Rows.laid_loop_example_g00257_impl_errLongBlock), ("loop.example/g00257/impl.errFullCache", Rows.laid_loop_example_g00257_impl_errFullCache), ("loop.example/g00257/impl.errNoneSaved", Rows.laid_loop_example_g00257_impl_errNoneSaved), ("loop.example/g00257/impl.errNoAct", Rows.laid_loop_example_g00257_impl_errNoAct)] [.sentinel, .sentinel, .sentinel, .sentinel, .sentinel] true :=
  Program.laidByTextLater_by_one 104 8 2 (by kernel_rfl) (by kernel_rfl) (by kernel_rfl) (by kernel_rfl) (by kernel_rfl) (by kernel_rfl) (fun _ _ => by kernel_rfl)
theorem noOwnUnsafe : Tryd.pinned.checked.prog.headLifts.contains "ownunsafe" = false := by kernel_rfl
theorem tie : Tryd.prog.laidByTextLater [("loop.example/g00257/impl.errNoBlock", Rows.laid_loop_example_g00257_impl_errNoBlock), ("loop.example/g00257/impl.errLongBlock", Rows.laid_loop_example_g00257_impl_errLongBlock), ("loop.example/g00257/impl.errFullCache", Rows.laid_loop_example_g00257_impl_errFullCache), ("loop.example/g00257/impl.errNoneSaved", Rows.laid_loop_example_g00257_impl_errNoneSaved), ("loop.example/g00257/impl.errNoAct", Rows.laid_loop_example_g00257_impl_errNoAct)] [.sentinel, .sentinel, .sentinel, .sentinel, .sentinel] true :=
  Program.laidByTextLater.sub seatTie1 ["loop.example/g00257/impl.errNoBlock", "loop.example/g00257/impl.errLongBlock", "loop.example/g00257/impl.errFullCache", "loop.example/g00257/impl.errNoneSaved", "loop.example/g00257/impl.errNoAct"] (by kernel_rfl) (by kernel_rfl)
theorem fnExactDiskRun_row_tie : Rows.fnExactDiskRunRow.laidByTextAt .later Tryd.pinned [.sentinel, .sentinel, .sentinel, .sentinel, .sentinel] true :=
  OpenClaim.laidByTextAt_later rfl rfl tie noOwnUnsafe
theorem fnExactDiskRunUpto_row_tie : Rows.fnExactDiskRunUptoRow.laidByTextAt .later Tryd.pinned [.sentinel, .sentinel, .sentinel, .sentinel, .sentinel] true :=
  OpenClaim.laidByTextAt_later rfl rfl tie noOwnUnsafe
end Go.Proofs.YtgdfhgepbamhmaaDoor
