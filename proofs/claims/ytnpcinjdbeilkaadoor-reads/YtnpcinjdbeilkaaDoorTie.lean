/-
  DERIVED. GIVEN WITH THE SEED: THE PROGRAM's TIES (one call each: nine closed facts by the kernel) AND EACH ROW's TIE, after the 31st guide's Derived/Test/Toyas{Tie, Card}.lean. No idea stands in it: it is a product of the set-up. Laid BY PROGRAM, IN A SANDBOX (cutbox-door.mjs). By AI agents, Wed Nov 11 2026. No macro, syntax, notation, axiom, sorry.
-/
import Derived.Test.YtnpcinjdbeilkaaDoorRows
import Derived.LaidByTextLater
import Derived.SevenTiedAt
import Derived.LaidSub
import Derived.LaidOnce
namespace Go.Proofs.YtnpcinjdbeilkaaDoor
open Go
set_option maxRecDepth 100000
theorem seatTie1 : Tryd.prog.laidByTextLater [("math/bits.deBruijn64tab", Rows.laid_math_bits_deBruijn64tab), ("errors.errorType", Rows.laid_errors_errorType), ("spring/pool.ErrContrary", Rows.laid_spring_pool_ErrContrary), ("spring/pool.ErrNoBlock", Rows.laid_spring_pool_ErrNoBlock), ("spring/pool.ErrCertain", Rows.laid_spring_pool_ErrCertain), ("spring/wire.ErrHead", Rows.laid_spring_wire_ErrHead), ("spring/wire.ErrLength", Rows.laid_spring_wire_ErrLength), ("spring/wire.ErrSize", Rows.laid_spring_wire_ErrSize), ("spring/wire.ErrEnd", Rows.laid_spring_wire_ErrEnd), ("spring/wire.ErrSum", Rows.laid_spring_wire_ErrSum), ("spring/wire.ErrStray", Rows.laid_spring_wire_ErrStray), ("spring/gather.ErrMany", Rows.laid_spring_gather_ErrMany), ("spring/gather.ErrNone", Rows.laid_spring_gather_ErrNone)] [.data, .handle, .sentinel, .sentinel, .sentinel, .sentinel, .sentinel, .sentinel, .sentinel, .sentinel, .sentinel, .sentinel, .sentinel] true :=
  Program.laidByTextLater_by_one 230 8 65 (by kernel_rfl) (by kernel_rfl) (by kernel_rfl) (by kernel_rfl) (by kernel_rfl) (by kernel_rfl) (fun _ _ => by kernel_rfl)
theorem noOwnUnsafe : Tryd.pinned.checked.prog.headLifts.contains "ownunsafe" = false := by kernel_rfl
theorem tie : Tryd.prog.laidByTextLater [("errors.errorType", Rows.laid_errors_errorType), ("spring/pool.ErrContrary", Rows.laid_spring_pool_ErrContrary), ("spring/pool.ErrNoBlock", Rows.laid_spring_pool_ErrNoBlock), ("spring/pool.ErrCertain", Rows.laid_spring_pool_ErrCertain), ("spring/wire.ErrHead", Rows.laid_spring_wire_ErrHead), ("spring/wire.ErrLength", Rows.laid_spring_wire_ErrLength), ("spring/wire.ErrSize", Rows.laid_spring_wire_ErrSize), ("spring/wire.ErrEnd", Rows.laid_spring_wire_ErrEnd), ("spring/wire.ErrSum", Rows.laid_spring_wire_ErrSum), ("spring/wire.ErrStray", Rows.laid_spring_wire_ErrStray), ("spring/gather.ErrMany", Rows.laid_spring_gather_ErrMany), ("spring/gather.ErrNone", Rows.laid_spring_gather_ErrNone)] [.handle, .sentinel, .sentinel, .sentinel, .sentinel, .sentinel, .sentinel, .sentinel, .sentinel, .sentinel, .sentinel, .sentinel] true :=
  Program.laidByTextLater.sub seatTie1 ["errors.errorType", "spring/pool.ErrContrary", "spring/pool.ErrNoBlock", "spring/pool.ErrCertain", "spring/wire.ErrHead", "spring/wire.ErrLength", "spring/wire.ErrSize", "spring/wire.ErrEnd", "spring/wire.ErrSum", "spring/wire.ErrStray", "spring/gather.ErrMany", "spring/gather.ErrNone"] (by kernel_rfl) (by kernel_rfl)
theorem reads_row_tie : Rows.readsRow.laidByTextAt .later Tryd.pinned [.handle, .sentinel, .sentinel, .sentinel, .sentinel, .sentinel, .sentinel, .sentinel, .sentinel, .sentinel, .sentinel, .sentinel] true :=
  OpenClaim.laidByTextAt_later rfl rfl tie noOwnUnsafe
theorem tie2 : Tryd.prog.laidByTextLater [("math/bits.deBruijn64tab", Rows.laid_math_bits_deBruijn64tab), ("errors.errorType", Rows.laid_errors_errorType), ("spring/pool.ErrContrary", Rows.laid_spring_pool_ErrContrary), ("spring/pool.ErrNoBlock", Rows.laid_spring_pool_ErrNoBlock), ("spring/pool.ErrCertain", Rows.laid_spring_pool_ErrCertain), ("spring/wire.ErrHead", Rows.laid_spring_wire_ErrHead), ("spring/wire.ErrLength", Rows.laid_spring_wire_ErrLength), ("spring/wire.ErrSize", Rows.laid_spring_wire_ErrSize), ("spring/wire.ErrEnd", Rows.laid_spring_wire_ErrEnd), ("spring/wire.ErrSum", Rows.laid_spring_wire_ErrSum), ("spring/wire.ErrStray", Rows.laid_spring_wire_ErrStray), ("spring/gather.ErrMany", Rows.laid_spring_gather_ErrMany), ("spring/gather.ErrNone", Rows.laid_spring_gather_ErrNone)] [.data, .handle, .sentinel, .sentinel, .sentinel, .sentinel, .sentinel, .sentinel, .sentinel, .sentinel, .sentinel, .sentinel, .sentinel] true :=
  Program.laidByTextLater.sub seatTie1 ["math/bits.deBruijn64tab", "errors.errorType", "spring/pool.ErrContrary", "spring/pool.ErrNoBlock", "spring/pool.ErrCertain", "spring/wire.ErrHead", "spring/wire.ErrLength", "spring/wire.ErrSize", "spring/wire.ErrEnd", "spring/wire.ErrSum", "spring/wire.ErrStray", "spring/gather.ErrMany", "spring/gather.ErrNone"] (by kernel_rfl) (by kernel_rfl)
theorem catches_row_tie : Rows.catchesRow.laidByTextAt .later Tryd.pinned [.data, .handle, .sentinel, .sentinel, .sentinel, .sentinel, .sentinel, .sentinel, .sentinel, .sentinel, .sentinel, .sentinel, .sentinel] true :=
  OpenClaim.laidByTextAt_later rfl rfl tie2 noOwnUnsafe
theorem told_row_tie : Rows.toldRow.laidByTextAt .later Tryd.pinned [.data, .handle, .sentinel, .sentinel, .sentinel, .sentinel, .sentinel, .sentinel, .sentinel, .sentinel, .sentinel, .sentinel, .sentinel] true :=
  OpenClaim.laidByTextAt_later rfl rfl tie2 noOwnUnsafe
theorem anyhow_row_tie : Rows.anyhowRow.laidByTextAt .later Tryd.pinned [.data, .handle, .sentinel, .sentinel, .sentinel, .sentinel, .sentinel, .sentinel, .sentinel, .sentinel, .sentinel, .sentinel, .sentinel] true :=
  OpenClaim.laidByTextAt_later rfl rfl tie2 noOwnUnsafe
theorem more_row_tie : Rows.moreRow.laidByTextAt .later Tryd.pinned [.data, .handle, .sentinel, .sentinel, .sentinel, .sentinel, .sentinel, .sentinel, .sentinel, .sentinel, .sentinel, .sentinel, .sentinel] true :=
  OpenClaim.laidByTextAt_later rfl rfl tie2 noOwnUnsafe
theorem leaves_row_tie : Rows.leavesRow.laidByTextAt .later Tryd.pinned [.data, .handle, .sentinel, .sentinel, .sentinel, .sentinel, .sentinel, .sentinel, .sentinel, .sentinel, .sentinel, .sentinel, .sentinel] true :=
  OpenClaim.laidByTextAt_later rfl rfl tie2 noOwnUnsafe
theorem readsUpto_row_tie : Rows.readsUptoRow.laidByTextAt .later Tryd.pinned [.handle, .sentinel, .sentinel, .sentinel, .sentinel, .sentinel, .sentinel, .sentinel, .sentinel, .sentinel, .sentinel, .sentinel] true :=
  OpenClaim.laidByTextAt_later rfl rfl tie noOwnUnsafe
theorem catchesUpto_row_tie : Rows.catchesUptoRow.laidByTextAt .later Tryd.pinned [.data, .handle, .sentinel, .sentinel, .sentinel, .sentinel, .sentinel, .sentinel, .sentinel, .sentinel, .sentinel, .sentinel, .sentinel] true :=
  OpenClaim.laidByTextAt_later rfl rfl tie2 noOwnUnsafe
theorem toldUpto_row_tie : Rows.toldUptoRow.laidByTextAt .later Tryd.pinned [.data, .handle, .sentinel, .sentinel, .sentinel, .sentinel, .sentinel, .sentinel, .sentinel, .sentinel, .sentinel, .sentinel, .sentinel] true :=
  OpenClaim.laidByTextAt_later rfl rfl tie2 noOwnUnsafe
theorem anyhowUpto_row_tie : Rows.anyhowUptoRow.laidByTextAt .later Tryd.pinned [.data, .handle, .sentinel, .sentinel, .sentinel, .sentinel, .sentinel, .sentinel, .sentinel, .sentinel, .sentinel, .sentinel, .sentinel] true :=
  OpenClaim.laidByTextAt_later rfl rfl tie2 noOwnUnsafe
theorem moreUpto_row_tie : Rows.moreUptoRow.laidByTextAt .later Tryd.pinned [.data, .handle, .sentinel, .sentinel, .sentinel, .sentinel, .sentinel, .sentinel, .sentinel, .sentinel, .sentinel, .sentinel, .sentinel] true :=
  OpenClaim.laidByTextAt_later rfl rfl tie2 noOwnUnsafe
theorem leavesUpto_row_tie : Rows.leavesUptoRow.laidByTextAt .later Tryd.pinned [.data, .handle, .sentinel, .sentinel, .sentinel, .sentinel, .sentinel, .sentinel, .sentinel, .sentinel, .sentinel, .sentinel, .sentinel] true :=
  OpenClaim.laidByTextAt_later rfl rfl tie2 noOwnUnsafe
end Go.Proofs.YtnpcinjdbeilkaaDoor
