/-
  DERIVED. GIVEN WITH THE SEED: THE PROGRAM's TIES (one call each: nine closed facts by the kernel) AND EACH ROW's TIE, after the 31st guide's Derived/Test/Toyas{Tie, Card}.lean. No idea stands in it: it is a product of the set-up. Laid BY PROGRAM, IN A SANDBOX (cutbox-door.mjs). By AI agents, Wed Nov 11 2026. No macro, syntax, notation, axiom, sorry.
-/
import Derived.Test.YtgeakpeodhhffaaDoorRows
import Derived.LaidByTextLater
import Derived.SevenTiedAt
import Derived.LaidSub
import Derived.LaidOnce
namespace Go.Proofs.YtgeakpeodhhffaaDoor
open Go
set_option maxRecDepth 100000
theorem seatTie1 : Tryd.prog.laidByTextLater [("loop.example/g00978/impl.slotMasks", Rows.laid_loop_example_g00978_impl_slotMasks), ("loop.example/g00978/impl.classSizes", Rows.laid_loop_example_g00978_impl_classSizes), ("loop.example/g00978/impl.errPage", Rows.laid_loop_example_g00978_impl_errPage), ("loop.example/g00978/impl.errWrite", Rows.laid_loop_example_g00978_impl_errWrite), ("loop.example/g00978/impl.errValue", Rows.laid_loop_example_g00978_impl_errValue)] [.data, .data, .sentinel, .sentinel, .sentinel] true :=
  Program.laidByTextLater_by_one 76 8 17 (by kernel_rfl) (by kernel_rfl) (by kernel_rfl) (by kernel_rfl) (by kernel_rfl) (by kernel_rfl) (fun _ _ => by kernel_rfl)
theorem noOwnUnsafe : Tryd.pinned.checked.prog.headLifts.contains "ownunsafe" = false := by kernel_rfl
theorem tie : Tryd.prog.laidByTextLater [("loop.example/g00978/impl.slotMasks", Rows.laid_loop_example_g00978_impl_slotMasks), ("loop.example/g00978/impl.classSizes", Rows.laid_loop_example_g00978_impl_classSizes)] [.data, .data] true :=
  Program.laidByTextLater.sub seatTie1 ["loop.example/g00978/impl.slotMasks", "loop.example/g00978/impl.classSizes"] (by kernel_rfl) (by kernel_rfl)
theorem fnLate_row_tie : Rows.fnLateRow.laidByTextAt .later Tryd.pinned [.data, .data] true :=
  OpenClaim.laidByTextAt_later rfl rfl tie noOwnUnsafe
theorem fnExactFreeSlot_row_tie : Rows.fnExactFreeSlotRow.laidByTextAt .later Tryd.pinned [.data, .data] true :=
  OpenClaim.laidByTextAt_later rfl rfl tie noOwnUnsafe
theorem tie2 : Tryd.prog.laidByTextLater [("loop.example/g00978/impl.classSizes", Rows.laid_loop_example_g00978_impl_classSizes), ("loop.example/g00978/impl.errPage", Rows.laid_loop_example_g00978_impl_errPage), ("loop.example/g00978/impl.errWrite", Rows.laid_loop_example_g00978_impl_errWrite), ("loop.example/g00978/impl.errValue", Rows.laid_loop_example_g00978_impl_errValue)] [.data, .sentinel, .sentinel, .sentinel] true :=
  Program.laidByTextLater.sub seatTie1 ["loop.example/g00978/impl.classSizes", "loop.example/g00978/impl.errPage", "loop.example/g00978/impl.errWrite", "loop.example/g00978/impl.errValue"] (by kernel_rfl) (by kernel_rfl)
theorem fnExactSlotClear_row_tie : Rows.fnExactSlotClearRow.laidByTextAt .later Tryd.pinned [.data, .sentinel, .sentinel, .sentinel] true :=
  OpenClaim.laidByTextAt_later rfl rfl tie2 noOwnUnsafe
theorem fnLateUpto_row_tie : Rows.fnLateUptoRow.laidByTextAt .later Tryd.pinned [.data, .data] true :=
  OpenClaim.laidByTextAt_later rfl rfl tie noOwnUnsafe
theorem fnExactFreeSlotUpto_row_tie : Rows.fnExactFreeSlotUptoRow.laidByTextAt .later Tryd.pinned [.data, .data] true :=
  OpenClaim.laidByTextAt_later rfl rfl tie noOwnUnsafe
theorem fnExactSlotClearUpto_row_tie : Rows.fnExactSlotClearUptoRow.laidByTextAt .later Tryd.pinned [.data, .sentinel, .sentinel, .sentinel] true :=
  OpenClaim.laidByTextAt_later rfl rfl tie2 noOwnUnsafe
end Go.Proofs.YtgeakpeodhhffaaDoor
