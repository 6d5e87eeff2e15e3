/-
  DERIVED. GIVEN WITH THE SEED: THE PROGRAM's TIES (one call each: nine closed facts by the kernel) AND EACH ROW's TIE, after the 31st guide's Derived/Test/Toyas{Tie, Card}.lean. No idea stands in it: it is a product of the set-up. Laid BY PROGRAM, IN A SANDBOX (cutbox-door.mjs). By AI agents, Wed Nov 11 2026. No macro, syntax, notation, axiom, sorry.
-/
import Derived.Test.YtkpmoolggpojdauDoorRows
import Derived.LaidByTextLater
import Derived.SevenTiedAt
import Derived.LaidSub
import Derived.LaidOnce
namespace Go.Proofs.YtkpmoolggpojdauDoor
open Go
set_option maxRecDepth 100000
theorem seatTie1 : Tryd.prog.laidByTextLater [("loop.example/g00063/impl.directionWords", Rows.laid_loop_example_g00063_impl_directionWords), ("loop.example/g00063/impl.directionSteps", Rows.laid_loop_example_g00063_impl_directionSteps)] [.data, .data] true :=
  Program.laidByTextLater_by_one 42 8 65 (by kernel_rfl) (by kernel_rfl) (by kernel_rfl) (by kernel_rfl) (by kernel_rfl) (by kernel_rfl) (fun _ _ => by kernel_rfl)
theorem noOwnUnsafe : Tryd.pinned.checked.prog.headLifts.contains "ownunsafe" = false := by kernel_rfl
theorem tie : Tryd.prog.laidByTextLater [("loop.example/g00063/impl.directionSteps", Rows.laid_loop_example_g00063_impl_directionSteps)] [.data] true :=
  Program.laidByTextLater.sub seatTie1 ["loop.example/g00063/impl.directionSteps"] (by kernel_rfl) (by kernel_rfl)
theorem fnExactFlyLeg_row_tie : Rows.fnExactFlyLegRow.laidByTextAt .later Tryd.pinned [.data] true :=
  OpenClaim.laidByTextAt_later rfl rfl tie noOwnUnsafe
theorem fnExactFlyRoute_row_tie : Rows.fnExactFlyRouteRow.laidByTextAt .later Tryd.pinned [.data] true :=
  OpenClaim.laidByTextAt_later rfl rfl tie noOwnUnsafe
theorem tie2 : Tryd.prog.laidByTextLater [("loop.example/g00063/impl.directionWords", Rows.laid_loop_example_g00063_impl_directionWords)] [.data] true :=
  Program.laidByTextLater.sub seatTie1 ["loop.example/g00063/impl.directionWords"] (by kernel_rfl) (by kernel_rfl)
theorem fnExactLegRead_row_tie : Rows.fnExactLegReadRow.laidByTextAt .later Tryd.pinned [.data] true :=
  OpenClaim.laidByTextAt_later rfl rfl tie2 noOwnUnsafe
theorem fnExactFlyLegUpto_row_tie : Rows.fnExactFlyLegUptoRow.laidByTextAt .later Tryd.pinned [.data] true :=
  OpenClaim.laidByTextAt_later rfl rfl tie noOwnUnsafe
theorem fnExactFlyRouteUpto_row_tie : Rows.fnExactFlyRouteUptoRow.laidByTextAt .later Tryd.pinned [.data] true :=
  OpenClaim.laidByTextAt_later rfl rfl tie noOwnUnsafe
theorem fnExactLegReadUpto_row_tie : Rows.fnExactLegReadUptoRow.laidByTextAt .later Tryd.pinned [.data] true :=
  OpenClaim.laidByTextAt_later rfl rfl tie2 noOwnUnsafe
end Go.Proofs.YtkpmoolggpojdauDoor
