/-
  DERIVED. GIVEN WITH THE SEED: THE PROGRAM's TIES (one call each: nine closed facts by the kernel) AND EACH ROW's TIE, after the 31st guide's Derived/Test/Toyas{Tie, Card}.lean. No idea stands in it: it is a product of the set-up. Laid BY PROGRAM, IN A SANDBOX (cutbox-door.mjs). By AI agents, Wed Nov 11 2026. No macro, syntax, notation, axiom, sorry.
-/
import Derived.Test.YtellfmhljjdjbaaGreatDoorRows
import Derived.LaidByTextLater
import Derived.SevenTiedAt
import Derived.LaidSub
import Derived.LaidOnce
namespace Go.Proofs.YtellfmhljjdjbaaGreatDoor
open Go
set_option maxRecDepth 100000
theorem seatTie1 : Tryz.prog.laidByTextLater [("errors.errorType", Rows.laid_errors_errorType), ("loop.example/g00363/impl.errNoModule", Rows.laid_loop_example_g00363_impl_errNoModule), ("loop.example/g00363/impl.errNoFunc", Rows.laid_loop_example_g00363_impl_errNoFunc), ("loop.example/g00363/impl.errNoBody", Rows.laid_loop_example_g00363_impl_errNoBody), ("loop.example/g00363/impl.errNoLocal", Rows.laid_loop_example_g00363_impl_errNoLocal), ("loop.example/g00363/impl.errNoCallee", Rows.laid_loop_example_g00363_impl_errNoCallee), ("loop.example/g00363/impl.errNoLabel", Rows.laid_loop_example_g00363_impl_errNoLabel), ("loop.example/g00363/impl.errNoElse", Rows.laid_loop_example_g00363_impl_errNoElse), ("loop.example/g00363/impl.errTooFew", Rows.laid_loop_example_g00363_impl_errTooFew), ("loop.example/g00363/impl.errUneven", Rows.laid_loop_example_g00363_impl_errUneven), ("loop.example/g00363/impl.errTooHigh", Rows.laid_loop_example_g00363_impl_errTooHigh)] [.handle, .sentinel, .sentinel, .sentinel, .sentinel, .sentinel, .sentinel, .sentinel, .sentinel, .sentinel, .sentinel] true :=
  Program.laidByTextLater_by_one 206 8 2 (by kernel_rfl) (by kernel_rfl) (by kernel_rfl) (by kernel_rfl) (by kernel_rfl) (by kernel_rfl) (fun _ _ => by kernel_rfl)
theorem noOwnUnsafe : Tryz.pinned.checked.prog.headLifts.contains "ownunsafe" = false := by kernel_rfl
theorem tie : Tryz.prog.laidByTextLater [("errors.errorType", Rows.laid_errors_errorType), ("loop.example/g00363/impl.errNoModule", Rows.laid_loop_example_g00363_impl_errNoModule), ("loop.example/g00363/impl.errNoFunc", Rows.laid_loop_example_g00363_impl_errNoFunc), ("loop.example/g00363/impl.errNoBody", Rows.laid_loop_example_g00363_impl_errNoBody), ("loop.example/g00363/impl.errNoLocal", Rows.laid_loop_example_g00363_impl_errNoLocal), ("loop.example/g00363/impl.errNoCallee", Rows.laid_loop_example_g00363_impl_errNoCallee), ("loop.example/g00363/impl.errNoLabel", Rows.laid_loop_example_g00363_impl_errNoLabel), ("loop.example/g00363/impl.errNoElse", Rows.laid_loop_example_g00363_impl_errNoElse), ("loop.example/g00363/impl.errTooFew", Rows.laid_loop_example_g00363_impl_errTooFew), ("loop.example/g00363/impl.errUneven", Rows.laid_loop_example_g00363_impl_errUneven), ("loop.example/g00363/impl.errTooHigh", Rows.laid_loop_example_g00363_impl_errTooHigh)] [.handle, .sentinel, .sentinel, .sentinel, .sentinel, .sentinel, .sentinel, .sentinel, .sentinel, .sentinel, .sentinel] true :=
  Program.laidByTextLater.sub seatTie1 ["errors.errorType", "loop.example/g00363/impl.errNoModule", "loop.example/g00363/impl.errNoFunc", "loop.example/g00363/impl.errNoBody", "loop.example/g00363/impl.errNoLocal", "loop.example/g00363/impl.errNoCallee", "loop.example/g00363/impl.errNoLabel", "loop.example/g00363/impl.errNoElse", "loop.example/g00363/impl.errTooFew", "loop.example/g00363/impl.errUneven", "loop.example/g00363/impl.errTooHigh"] (by kernel_rfl) (by kernel_rfl)
theorem fnLowered_row_tie : Rows.fnLoweredRow.laidByTextAt .later Tryz.pinned [.handle, .sentinel, .sentinel, .sentinel, .sentinel, .sentinel, .sentinel, .sentinel, .sentinel, .sentinel, .sentinel] true :=
  OpenClaim.laidByTextAt_later rfl rfl tie noOwnUnsafe
theorem fnAllLowered_row_tie : Rows.fnAllLoweredRow.laidByTextAt .later Tryz.pinned [.handle, .sentinel, .sentinel, .sentinel, .sentinel, .sentinel, .sentinel, .sentinel, .sentinel, .sentinel, .sentinel] true :=
  OpenClaim.laidByTextAt_later rfl rfl tie noOwnUnsafe
theorem fnExactLowered_row_tie : Rows.fnExactLoweredRow.laidByTextAt .later Tryz.pinned [.handle, .sentinel, .sentinel, .sentinel, .sentinel, .sentinel, .sentinel, .sentinel, .sentinel, .sentinel, .sentinel] true :=
  OpenClaim.laidByTextAt_later rfl rfl tie noOwnUnsafe
theorem fnExactAllLowered_row_tie : Rows.fnExactAllLoweredRow.laidByTextAt .later Tryz.pinned [.handle, .sentinel, .sentinel, .sentinel, .sentinel, .sentinel, .sentinel, .sentinel, .sentinel, .sentinel, .sentinel] true :=
  OpenClaim.laidByTextAt_later rfl rfl tie noOwnUnsafe
theorem fnLoweredUpto_row_tie : Rows.fnLoweredUptoRow.laidByTextAt .later Tryz.pinned [.handle, .sentinel, .sentinel, .sentinel, .sentinel, .sentinel, .sentinel, .sentinel, .sentinel, .sentinel, .sentinel] true :=
  OpenClaim.laidByTextAt_later rfl rfl tie noOwnUnsafe
theorem fnAllLoweredUpto_row_tie : Rows.fnAllLoweredUptoRow.laidByTextAt .later Tryz.pinned [.handle, .sentinel, .sentinel, .sentinel, .sentinel, .sentinel, .sentinel, .sentinel, .sentinel, .sentinel, .sentinel] true :=
  OpenClaim.laidByTextAt_later rfl rfl tie noOwnUnsafe
theorem fnExactLoweredUpto_row_tie : Rows.fnExactLoweredUptoRow.laidByTextAt .later Tryz.pinned [.handle, .sentinel, .sentinel, .sentinel, .sentinel, .sentinel, .sentinel, .sentinel, .sentinel, .sentinel, .sentinel] true :=
  OpenClaim.laidByTextAt_later rfl rfl tie noOwnUnsafe
theorem fnExactAllLoweredUpto_row_tie : Rows.fnExactAllLoweredUptoRow.laidByTextAt .later Tryz.pinned [.handle, .sentinel, .sentinel, .sentinel, .sentinel, .sentinel, .sentinel, .sentinel, .sentinel, .sentinel, .sentinel] true :=
  OpenClaim.laidByTextAt_later rfl rfl tie noOwnUnsafe
end Go.Proofs.YtellfmhljjdjbaaGreatDoor
