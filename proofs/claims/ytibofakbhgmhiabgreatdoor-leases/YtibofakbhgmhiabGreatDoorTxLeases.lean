import Derived.Test.YtibofakbhgmhiabGreatDoorRows
import Derived.LaidByTextLater
import Derived.SevenTiedAt
namespace Go.Proofs.YtibofakbhgmhiabGreatDoor
open Go

set_option maxRecDepth 100000 in
set_option maxHeartbeats 8000000 in
theorem pin_laid_unicode_utf8_first : Tryz.pinned.checked.prog.pinnedFits "unicode/utf8.first" = true := by kernel_rfl
set_option maxRecDepth 100000 in
set_option maxHeartbeats 8000000 in
theorem noOwnUnsafe : Tryz.pinned.checked.prog.headLifts.contains "ownunsafe" = false := by kernel_rfl
set_option maxRecDepth 100000 in
set_option maxHeartbeats 8000000 in
theorem fits2 : Tryz.pinned.checked.prog.listedFits [("mapreduce/mapreduce.ErrArg", Rows.laid_mapreduce_mapreduce_ErrArg), ("mapreduce/mapreduce.ErrShort", Rows.laid_mapreduce_mapreduce_ErrShort), ("mapreduce/mapreduce.ErrSum", Rows.laid_mapreduce_mapreduce_ErrSum), ("mapreduce/mapreduce.ErrInput", Rows.laid_mapreduce_mapreduce_ErrInput), ("mapreduce/mapreduce.ErrFull", Rows.laid_mapreduce_mapreduce_ErrFull), ("mapreduce/mapreduce.ErrUnknown", Rows.laid_mapreduce_mapreduce_ErrUnknown), ("mapreduce/mapreduce.ErrStale", Rows.laid_mapreduce_mapreduce_ErrStale), ("mapreduce/mapreduce.ErrWait", Rows.laid_mapreduce_mapreduce_ErrWait), ("mapreduce/mapreduce.ErrDone", Rows.laid_mapreduce_mapreduce_ErrDone), ("mapreduce/mapreduce.ErrExhausted", Rows.laid_mapreduce_mapreduce_ErrExhausted), ("mapreduce/mapreduce.ErrEnded", Rows.laid_mapreduce_mapreduce_ErrEnded), ("errors.errorType", Rows.laid_errors_errorType), ("internal/strconv.uint64pow10", Rows.laid_internal_strconv_uint64pow10), ("math/bits.deBruijn32tab", Rows.laid_math_bits_deBruijn32tab), ("math/bits.deBruijn64tab", Rows.laid_math_bits_deBruijn64tab), ("unicode/utf8.first", Rows.laid_unicode_utf8_first), ("unicode/utf8.acceptRanges", Rows.laid_unicode_utf8_acceptRanges), ("mapreduce/mapreduce.nibbleSums", Rows.laid_mapreduce_mapreduce_nibbleSums)] = true := by
  unfold Program.listedFits
  rw [noOwnUnsafe]
  kernel_rfl
set_option maxRecDepth 100000 in
set_option maxHeartbeats 8000000 in
theorem tie2 : Tryz.prog.laidByTextLater [("mapreduce/mapreduce.ErrArg", Rows.laid_mapreduce_mapreduce_ErrArg), ("mapreduce/mapreduce.ErrShort", Rows.laid_mapreduce_mapreduce_ErrShort), ("mapreduce/mapreduce.ErrSum", Rows.laid_mapreduce_mapreduce_ErrSum), ("mapreduce/mapreduce.ErrInput", Rows.laid_mapreduce_mapreduce_ErrInput), ("mapreduce/mapreduce.ErrFull", Rows.laid_mapreduce_mapreduce_ErrFull), ("mapreduce/mapreduce.ErrUnknown", Rows.laid_mapreduce_mapreduce_ErrUnknown), ("mapreduce/mapreduce.ErrStale", Rows.laid_mapreduce_mapreduce_ErrStale), ("mapreduce/mapreduce.ErrWait", Rows.laid_mapreduce_mapreduce_ErrWait), ("mapreduce/mapreduce.ErrDone", Rows.laid_mapreduce_mapreduce_ErrDone), ("mapreduce/mapreduce.ErrExhausted", Rows.laid_mapreduce_mapreduce_ErrExhausted), ("mapreduce/mapreduce.ErrEnded", Rows.laid_mapreduce_mapreduce_ErrEnded), ("errors.errorType", Rows.laid_errors_errorType), ("internal/strconv.uint64pow10", Rows.laid_internal_strconv_uint64pow10), ("math/bits.deBruijn32tab", Rows.laid_math_bits_deBruijn32tab), ("math/bits.deBruijn64tab", Rows.laid_math_bits_deBruijn64tab), ("unicode/utf8.acceptRanges", Rows.laid_unicode_utf8_acceptRanges), ("mapreduce/mapreduce.nibbleSums", Rows.laid_mapreduce_mapreduce_nibbleSums)] [.sentinel, .sentinel, .sentinel, .sentinel, .sentinel, .sentinel, .sentinel, .sentinel, .sentinel, .sentinel, .sentinel, .handle, .data, .data, .data, .data, .data] true :=
  Program.laidByTextLater_by_run_h 400 8 (by as_aux_lemma => kernel_rfl) (by as_aux_lemma => kernel_rfl) (by as_aux_lemma => kernel_rfl) (by as_aux_lemma => kernel_rfl) (by as_aux_lemma => kernel_rfl) (by as_aux_lemma => kernel_rfl) (fun _ _ => by as_aux_lemma => kernel_rfl) (fun _ _ => by as_aux_lemma => kernel_rfl) (fun _ _ => by as_aux_lemma => kernel_rfl) (fun _ _ => by as_aux_lemma => kernel_rfl)
theorem leases_row_tie : Rows.leasesRow.laidByTextAt .later Tryz.pinned [.sentinel, .sentinel, .sentinel, .sentinel, .sentinel, .sentinel, .sentinel, .sentinel, .sentinel, .sentinel, .sentinel, .handle, .data, .data, .data, .pinned, .data, .data] true :=
  OpenClaim.laidByTextAt_pinned rfl rfl tie2 rfl rfl rfl rfl (fun y hy _e => by
    simp only [Rows.leasesRow, List.zip_cons_cons, List.zip_nil_right, List.mem_cons, List.mem_nil_iff, or_false] at hy
    rcases hy with rfl | rfl | rfl | rfl | rfl | rfl | rfl | rfl | rfl | rfl | rfl | rfl | rfl | rfl | rfl | rfl | rfl | rfl
    · cases _e
    · cases _e
    · cases _e
    · cases _e
    · cases _e
    · cases _e
    · cases _e
    · cases _e
    · cases _e
    · cases _e
    · cases _e
    · cases _e
    · cases _e
    · cases _e
    · cases _e
    · exact ⟨pin_laid_unicode_utf8_first, by kernel_rfl⟩
    · cases _e
    · cases _e) fits2
end Go.Proofs.YtibofakbhgmhiabGreatDoor
