/-
  DERIVED. GIVEN WITH THE SEED: THE PROGRAM's TIES (one call each: nine closed facts by the kernel) AND EACH ROW's TIE, after the 31st guide's Derived/Test/Toyas{Tie, Card}.lean. No idea stands in it: it is a product of the set-up. Laid BY PROGRAM, IN A SANDBOX (cutbox-door.mjs). By AI agents, Wed Nov 11 2026. No macro, syntax, notation, axiom, sorry.
-/
import Derived.Test.YtojdfdlbdpdlkaaGreatDoorRows
import Derived.LaidByTextLater
import Derived.SevenTiedAt
import Derived.LaidSub
import Derived.LaidOnce
namespace Go.Proofs.YtojdfdlbdpdlkaaGreatDoor
open Go
set_option maxRecDepth 100000
theorem seatTie1 : Tryz.prog.laidByTextLater [("loop.example/g00446/impl.errTooLong", Rows.laid_loop_example_g00446_impl_errTooLong), ("loop.example/g00446/impl.errNotRight", Rows.laid_loop_example_g00446_impl_errNotRight), ("loop.example/g00446/impl.errNoFile", Rows.laid_loop_example_g00446_impl_errNoFile), ("loop.example/g00446/impl.errOutside", Rows.laid_loop_example_g00446_impl_errOutside), ("loop.example/g00446/impl.errNoRoom", Rows.laid_loop_example_g00446_impl_errNoRoom)] [.sentinel, .sentinel, .sentinel, .sentinel, .sentinel] true :=
  Program.laidByTextLater_by_one 104 8 2 (by kernel_rfl) (by kernel_rfl) (by kernel_rfl) (by kernel_rfl) (by kernel_rfl) (by kernel_rfl) (fun _ _ => by kernel_rfl)
theorem noOwnUnsafe : Tryz.pinned.checked.prog.headLifts.contains "ownunsafe" = false := by kernel_rfl
theorem tie : Tryz.prog.laidByTextLater [("loop.example/g00446/impl.errTooLong", Rows.laid_loop_example_g00446_impl_errTooLong), ("loop.example/g00446/impl.errNotRight", Rows.laid_loop_example_g00446_impl_errNotRight), ("loop.example/g00446/impl.errNoFile", Rows.laid_loop_example_g00446_impl_errNoFile), ("loop.example/g00446/impl.errOutside", Rows.laid_loop_example_g00446_impl_errOutside), ("loop.example/g00446/impl.errNoRoom", Rows.laid_loop_example_g00446_impl_errNoRoom)] [.sentinel, .sentinel, .sentinel, .sentinel, .sentinel] true :=
  Program.laidByTextLater.sub seatTie1 ["loop.example/g00446/impl.errTooLong", "loop.example/g00446/impl.errNotRight", "loop.example/g00446/impl.errNoFile", "loop.example/g00446/impl.errOutside", "loop.example/g00446/impl.errNoRoom"] (by kernel_rfl) (by kernel_rfl)
theorem fnJournal_row_tie : Rows.fnJournalRow.laidByTextAt .later Tryz.pinned [.sentinel, .sentinel, .sentinel, .sentinel, .sentinel] true :=
  OpenClaim.laidByTextAt_later rfl rfl tie noOwnUnsafe
theorem fnJournalUpto_row_tie : Rows.fnJournalUptoRow.laidByTextAt .later Tryz.pinned [.sentinel, .sentinel, .sentinel, .sentinel, .sentinel] true :=
  OpenClaim.laidByTextAt_later rfl rfl tie noOwnUnsafe
end Go.Proofs.YtojdfdlbdpdlkaaGreatDoor
