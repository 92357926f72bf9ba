/-
  DERIVED. GIVEN WITH THE SEED: THE PROGRAM's TIES (one call each: nine closed facts by the kernel) AND EACH ROW's TIE, after the 31st guide's Derived/Test/Toyas{Tie, Card}.lean. No idea stands in it: it is a product of the set-up. Laid BY PROGRAM, IN A SANDBOX (cutbox-door.mjs). By AI agents, Wed Nov 11 2026. No macro, syntax, notation, axiom, sorry.
-/
import Derived.Test.YtibofakbhgmhiaaDoorRows
import Derived.LaidByTextLater
import Derived.SevenTiedAt
import Derived.LaidSub
import Derived.LaidOnce
namespace Go.Proofs.YtibofakbhgmhiaaDoor
open Go
set_option maxRecDepth 100000
theorem seatTie1 : Tryd.prog.laidByTextLater [("errors.errorType", Rows.laid_errors_errorType), ("mapreduce/mapreduce.ErrArg", Rows.laid_mapreduce_mapreduce_ErrArg), ("mapreduce/mapreduce.ErrShort", Rows.laid_mapreduce_mapreduce_ErrShort), ("mapreduce/mapreduce.ErrSum", Rows.laid_mapreduce_mapreduce_ErrSum), ("mapreduce/mapreduce.ErrInput", Rows.laid_mapreduce_mapreduce_ErrInput), ("mapreduce/mapreduce.ErrFull", Rows.laid_mapreduce_mapreduce_ErrFull), ("mapreduce/mapreduce.ErrUnknown", Rows.laid_mapreduce_mapreduce_ErrUnknown), ("mapreduce/mapreduce.ErrStale", Rows.laid_mapreduce_mapreduce_ErrStale), ("mapreduce/mapreduce.ErrWait", Rows.laid_mapreduce_mapreduce_ErrWait), ("mapreduce/mapreduce.ErrDone", Rows.laid_mapreduce_mapreduce_ErrDone), ("mapreduce/mapreduce.ErrExhausted", Rows.laid_mapreduce_mapreduce_ErrExhausted), ("mapreduce/mapreduce.ErrEnded", Rows.laid_mapreduce_mapreduce_ErrEnded)] [.handle, .sentinel, .sentinel, .sentinel, .sentinel, .sentinel, .sentinel, .sentinel, .sentinel, .sentinel, .sentinel, .sentinel] true :=
  Program.laidByTextLater_by_one 240 8 65 (by kernel_rfl) (by kernel_rfl) (by kernel_rfl) (by kernel_rfl) (by kernel_rfl) (by kernel_rfl) (fun _ _ => by kernel_rfl)
theorem noOwnUnsafe : Tryd.pinned.checked.prog.headLifts.contains "ownunsafe" = false := by kernel_rfl
theorem tie : Tryd.prog.laidByTextLater [("errors.errorType", Rows.laid_errors_errorType), ("mapreduce/mapreduce.ErrArg", Rows.laid_mapreduce_mapreduce_ErrArg), ("mapreduce/mapreduce.ErrShort", Rows.laid_mapreduce_mapreduce_ErrShort), ("mapreduce/mapreduce.ErrSum", Rows.laid_mapreduce_mapreduce_ErrSum), ("mapreduce/mapreduce.ErrInput", Rows.laid_mapreduce_mapreduce_ErrInput), ("mapreduce/mapreduce.ErrFull", Rows.laid_mapreduce_mapreduce_ErrFull), ("mapreduce/mapreduce.ErrUnknown", Rows.laid_mapreduce_mapreduce_ErrUnknown), ("mapreduce/mapreduce.ErrStale", Rows.laid_mapreduce_mapreduce_ErrStale), ("mapreduce/mapreduce.ErrWait", Rows.laid_mapreduce_mapreduce_ErrWait), ("mapreduce/mapreduce.ErrDone", Rows.laid_mapreduce_mapreduce_ErrDone), ("mapreduce/mapreduce.ErrExhausted", Rows.laid_mapreduce_mapreduce_ErrExhausted), ("mapreduce/mapreduce.ErrEnded", Rows.laid_mapreduce_mapreduce_ErrEnded)] [.handle, .sentinel, .sentinel, .sentinel, .sentinel, .sentinel, .sentinel, .sentinel, .sentinel, .sentinel, .sentinel, .sentinel] true :=
  Program.laidByTextLater.sub seatTie1 ["errors.errorType", "mapreduce/mapreduce.ErrArg", "mapreduce/mapreduce.ErrShort", "mapreduce/mapreduce.ErrSum", "mapreduce/mapreduce.ErrInput", "mapreduce/mapreduce.ErrFull", "mapreduce/mapreduce.ErrUnknown", "mapreduce/mapreduce.ErrStale", "mapreduce/mapreduce.ErrWait", "mapreduce/mapreduce.ErrDone", "mapreduce/mapreduce.ErrExhausted", "mapreduce/mapreduce.ErrEnded"] (by kernel_rfl) (by kernel_rfl)
theorem names_row_tie : Rows.namesRow.laidByTextAt .later Tryd.pinned [.handle, .sentinel, .sentinel, .sentinel, .sentinel, .sentinel, .sentinel, .sentinel, .sentinel, .sentinel, .sentinel, .sentinel] true :=
  OpenClaim.laidByTextAt_later rfl rfl tie noOwnUnsafe
theorem namesUpto_row_tie : Rows.namesUptoRow.laidByTextAt .later Tryd.pinned [.handle, .sentinel, .sentinel, .sentinel, .sentinel, .sentinel, .sentinel, .sentinel, .sentinel, .sentinel, .sentinel, .sentinel] true :=
  OpenClaim.laidByTextAt_later rfl rfl tie noOwnUnsafe
end Go.Proofs.YtibofakbhgmhiaaDoor
