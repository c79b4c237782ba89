/-
  DERIVED. GIVEN WITH THE SEED: THE PROGRAM's TIES (one call each: nine closed facts by the kernel) AND EACH ROW's TIE, after the 31st guide's Derived/Test/Toyas{Tie, Card}.lean. No idea stands in it: it is a product of the set-up. Laid BY PROGRAM, IN A SANDBOX (cutbox-door.mjs). By AI agents, Wed Nov 11 2026. No macro, syntax, notation, axiom, sorry.
-/
import Derived.Test.YteoonaanoenjiaaGreatDoorRows
import Derived.LaidByTextLater
import Derived.SevenTiedAt
import Derived.LaidSub
import Derived.LaidOnce
namespace Go.Proofs.YteoonaanoenjiaaGreatDoor
open Go
set_option maxRecDepth 100000
theorem seatTie1 : Tryz.prog.laidByTextLater [("errors.errorType", Rows.laid_errors_errorType), ("loop.example/g00577/impl.errNoSky", Rows.laid_loop_example_g00577_impl_errNoSky), ("loop.example/g00577/impl.errNoCommand", Rows.laid_loop_example_g00577_impl_errNoCommand)] [.handle, .sentinel, .sentinel] true :=
  Program.laidByTextLater_by_one 54 8 2 (by kernel_rfl) (by kernel_rfl) (by kernel_rfl) (by kernel_rfl) (by kernel_rfl) (by kernel_rfl) (fun _ _ => by kernel_rfl)
theorem noOwnUnsafe : Tryz.pinned.checked.prog.headLifts.contains "ownunsafe" = false := by kernel_rfl
theorem tie : Tryz.prog.laidByTextLater [("loop.example/g00577/impl.errNoSky", Rows.laid_loop_example_g00577_impl_errNoSky), ("loop.example/g00577/impl.errNoCommand", Rows.laid_loop_example_g00577_impl_errNoCommand)] [.sentinel, .sentinel] true :=
  Program.laidByTextLater.sub seatTie1 ["loop.example/g00577/impl.errNoSky", "loop.example/g00577/impl.errNoCommand"] (by kernel_rfl) (by kernel_rfl)
theorem fnExactObey_row_tie : Rows.fnExactObeyRow.laidByTextAt .later Tryz.pinned [.sentinel, .sentinel] true :=
  OpenClaim.laidByTextAt_later rfl rfl tie noOwnUnsafe
theorem tie2 : Tryz.prog.laidByTextLater [("errors.errorType", Rows.laid_errors_errorType), ("loop.example/g00577/impl.errNoSky", Rows.laid_loop_example_g00577_impl_errNoSky), ("loop.example/g00577/impl.errNoCommand", Rows.laid_loop_example_g00577_impl_errNoCommand)] [.handle, .sentinel, .sentinel] true :=
  Program.laidByTextLater.sub seatTie1 ["errors.errorType", "loop.example/g00577/impl.errNoSky", "loop.example/g00577/impl.errNoCommand"] (by kernel_rfl) (by kernel_rfl)
theorem fnExactLink_row_tie : Rows.fnExactLinkRow.laidByTextAt .later Tryz.pinned [.handle, .sentinel, .sentinel] true :=
  OpenClaim.laidByTextAt_later rfl rfl tie2 noOwnUnsafe
theorem fnExactObeyUpto_row_tie : Rows.fnExactObeyUptoRow.laidByTextAt .later Tryz.pinned [.sentinel, .sentinel] true :=
  OpenClaim.laidByTextAt_later rfl rfl tie noOwnUnsafe
theorem fnExactLinkUpto_row_tie : Rows.fnExactLinkUptoRow.laidByTextAt .later Tryz.pinned [.handle, .sentinel, .sentinel] true :=
  OpenClaim.laidByTextAt_later rfl rfl tie2 noOwnUnsafe
end Go.Proofs.YteoonaanoenjiaaGreatDoor
