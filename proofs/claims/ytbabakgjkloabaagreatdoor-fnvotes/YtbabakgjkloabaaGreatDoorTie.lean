/-
  DERIVED. GIVEN WITH THE SEED: THE PROGRAM's TIES (one call each: nine closed facts by the kernel) AND EACH ROW's TIE, after the 31st guide's Derived/Test/Toyas{Tie, Card}.lean. No idea stands in it: it is a product of the set-up. Laid BY PROGRAM, IN A SANDBOX (cutbox-door.mjs). By AI agents, Wed Nov 11 2026. No macro, syntax, notation, axiom, sorry.
-/
import Derived.Test.YtbabakgjkloabaaGreatDoorRows
import Derived.LaidByTextLater
import Derived.SevenTiedAt
import Derived.LaidSub
import Derived.LaidOnce
namespace Go.Proofs.YtbabakgjkloabaaGreatDoor
open Go
set_option maxRecDepth 100000
theorem seatTie1 : Tryz.prog.laidByTextLater [("errors.errorType", Rows.laid_errors_errorType), ("loop.example/g00161/impl.errNoLog", Rows.laid_loop_example_g00161_impl_errNoLog), ("loop.example/g00161/impl.errNoEntry", Rows.laid_loop_example_g00161_impl_errNoEntry), ("loop.example/g00161/impl.errOtherTerm", Rows.laid_loop_example_g00161_impl_errOtherTerm)] [.handle, .sentinel, .sentinel, .sentinel] true :=
  Program.laidByTextLater_by_one 73 8 2 (by kernel_rfl) (by kernel_rfl) (by kernel_rfl) (by kernel_rfl) (by kernel_rfl) (by kernel_rfl) (fun _ _ => by kernel_rfl)
theorem noOwnUnsafe : Tryz.pinned.checked.prog.headLifts.contains "ownunsafe" = false := by kernel_rfl
theorem tie : Tryz.prog.laidByTextLater [("errors.errorType", Rows.laid_errors_errorType), ("loop.example/g00161/impl.errNoLog", Rows.laid_loop_example_g00161_impl_errNoLog), ("loop.example/g00161/impl.errNoEntry", Rows.laid_loop_example_g00161_impl_errNoEntry), ("loop.example/g00161/impl.errOtherTerm", Rows.laid_loop_example_g00161_impl_errOtherTerm)] [.handle, .sentinel, .sentinel, .sentinel] true :=
  Program.laidByTextLater.sub seatTie1 ["errors.errorType", "loop.example/g00161/impl.errNoLog", "loop.example/g00161/impl.errNoEntry", "loop.example/g00161/impl.errOtherTerm"] (by kernel_rfl) (by kernel_rfl)
theorem fnVotes_row_tie : Rows.fnVotesRow.laidByTextAt .later Tryz.pinned [.handle, .sentinel, .sentinel, .sentinel] true :=
  OpenClaim.laidByTextAt_later rfl rfl tie noOwnUnsafe
theorem tie2 : Tryz.prog.laidByTextLater [("loop.example/g00161/impl.errNoLog", Rows.laid_loop_example_g00161_impl_errNoLog)] [.sentinel] true :=
  Program.laidByTextLater.sub seatTie1 ["loop.example/g00161/impl.errNoLog"] (by kernel_rfl) (by kernel_rfl)
theorem fnLeads_row_tie : Rows.fnLeadsRow.laidByTextAt .later Tryz.pinned [.sentinel] true :=
  OpenClaim.laidByTextAt_later rfl rfl tie2 noOwnUnsafe
theorem fnVotesUpto_row_tie : Rows.fnVotesUptoRow.laidByTextAt .later Tryz.pinned [.handle, .sentinel, .sentinel, .sentinel] true :=
  OpenClaim.laidByTextAt_later rfl rfl tie noOwnUnsafe
theorem fnLeadsUpto_row_tie : Rows.fnLeadsUptoRow.laidByTextAt .later Tryz.pinned [.sentinel] true :=
  OpenClaim.laidByTextAt_later rfl rfl tie2 noOwnUnsafe
end Go.Proofs.YtbabakgjkloabaaGreatDoor
