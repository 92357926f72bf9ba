import Derived.Test.YtibofakbhgmhiaaGreatDoorPrmL
import Derived.Test.YtibofakbhgmhiaaGreatDoorSum
namespace Go.Proofs.YtibofakbhgmhiaaGreatDoor
open Go.ChangeShapes Go.WideShapes Go.RowKit

theorem Tryz.gNib : Tryz.prog.globalNamed "mapreduce/mapreduce.nibbleSums" = some 12 := by kernel_rfl
theorem Tryz.tNib : (Tryz.prog.globals[12]?).map (·.type) = some 285 := by kernel_rfl
theorem Tryz.cellsU32 : Tryz.prog.cellsOf 159 = 1 := by kernel_rfl
theorem Tryz.cellsNib : Tryz.prog.cellsOf 285 = 16 := by kernel_rfl
theorem nib_data : Rows.laid_mapreduce_mapreduce_nibbleSums = (Lib.tabData .u32 (tabN.map fun (n : Nat) => (n : Int)) : DataW Unit) := by kernel_rfl

theorem tab_of {W : World} {r : List (String × DataW Unit)} {ps : List MemPlace} (h : DataW.LaidVars Tryz.prog W (("mapreduce/mapreduce.nibbleSums", Rows.laid_mapreduce_mapreduce_nibbleSums) :: r) ps) : Tab W := by
  obtain ⟨g, t, cs, fuel, p, q, hg, ht, hv, hd, _, _⟩ := h
  obtain rfl := Option.some.inj (Tryz.gNib.symm.trans hg)
  obtain rfl := Option.some.inj (Tryz.tNib.symm.trans ht)
  rw [nib_data] at hd
  have e := Lib.cells_of_tab Tryz.underlying285 Tryz.underlying159 Tryz.cellsU32 Tryz.cellsNib hd
  intro j hj
  rw [World.var?_cell hg hv j]
  have e2 : cs[j]? = cs.toList[j]? := by simp
  rw [e2, e]
  have hl : tabN.length = 16 := rfl
  simp [tabAt, List.getD, List.getElem?_eq_getElem (show j < tabN.length by omega)]

theorem round_facts {W : World} (h : laidMetH Tryz.prog Rows.roundRow.laid W) : ∃ a, Sents W a ∧ Tab W := by
  have h' : laidMet Tryz.prog [("mapreduce/mapreduce.ErrArg", Rows.laid_mapreduce_mapreduce_ErrArg), ("mapreduce/mapreduce.ErrInput", Rows.laid_mapreduce_mapreduce_ErrInput), ("internal/strconv.uint64pow10", Rows.laid_internal_strconv_uint64pow10), ("math/bits.deBruijn32tab", Rows.laid_math_bits_deBruijn32tab), ("math/bits.deBruijn64tab", Rows.laid_math_bits_deBruijn64tab), ("unicode/utf8.first", Rows.laid_unicode_utf8_first), ("unicode/utf8.acceptRanges", Rows.laid_unicode_utf8_acceptRanges), ("mapreduce/mapreduce.ErrExhausted", Rows.laid_mapreduce_mapreduce_ErrExhausted), ("mapreduce/mapreduce.ErrDone", Rows.laid_mapreduce_mapreduce_ErrDone), ("mapreduce/mapreduce.ErrWait", Rows.laid_mapreduce_mapreduce_ErrWait), ("mapreduce/mapreduce.ErrUnknown", Rows.laid_mapreduce_mapreduce_ErrUnknown), ("mapreduce/mapreduce.ErrStale", Rows.laid_mapreduce_mapreduce_ErrStale), ("mapreduce/mapreduce.nibbleSums", Rows.laid_mapreduce_mapreduce_nibbleSums), ("mapreduce/mapreduce.ErrFull", Rows.laid_mapreduce_mapreduce_ErrFull), ("mapreduce/mapreduce.ErrShort", Rows.laid_mapreduce_mapreduce_ErrShort), ("mapreduce/mapreduce.ErrSum", Rows.laid_mapreduce_mapreduce_ErrSum), ("mapreduce/mapreduce.ErrEnded", Rows.laid_mapreduce_mapreduce_ErrEnded)] W ∧ handlesMet Tryz.prog [("errors.errorType", Rows.laid_errors_errorType)] W := h
  obtain ⟨hm, hh⟩ := h'
  have hp := perm_idx ("errors.errorType", Rows.laid_errors_errorType) [("mapreduce/mapreduce.ErrArg", Rows.laid_mapreduce_mapreduce_ErrArg), ("mapreduce/mapreduce.ErrInput", Rows.laid_mapreduce_mapreduce_ErrInput), ("internal/strconv.uint64pow10", Rows.laid_internal_strconv_uint64pow10), ("math/bits.deBruijn32tab", Rows.laid_math_bits_deBruijn32tab), ("math/bits.deBruijn64tab", Rows.laid_math_bits_deBruijn64tab), ("unicode/utf8.first", Rows.laid_unicode_utf8_first), ("unicode/utf8.acceptRanges", Rows.laid_unicode_utf8_acceptRanges), ("mapreduce/mapreduce.ErrExhausted", Rows.laid_mapreduce_mapreduce_ErrExhausted), ("mapreduce/mapreduce.ErrDone", Rows.laid_mapreduce_mapreduce_ErrDone), ("mapreduce/mapreduce.ErrWait", Rows.laid_mapreduce_mapreduce_ErrWait), ("mapreduce/mapreduce.ErrUnknown", Rows.laid_mapreduce_mapreduce_ErrUnknown), ("mapreduce/mapreduce.ErrStale", Rows.laid_mapreduce_mapreduce_ErrStale), ("mapreduce/mapreduce.nibbleSums", Rows.laid_mapreduce_mapreduce_nibbleSums), ("mapreduce/mapreduce.ErrFull", Rows.laid_mapreduce_mapreduce_ErrFull), ("mapreduce/mapreduce.ErrShort", Rows.laid_mapreduce_mapreduce_ErrShort), ("mapreduce/mapreduce.ErrSum", Rows.laid_mapreduce_mapreduce_ErrSum), ("mapreduce/mapreduce.ErrEnded", Rows.laid_mapreduce_mapreduce_ErrEnded)] [0, 14, 15, 1, 13, 10, 11, 9, 8, 7, 16, 12, 2, 3, 4, 5, 6] (by decide)
  obtain ⟨ps, hv, hnd, hrows⟩ := laidMet_perm hp hm
  have hv' : DataW.LaidVars Tryz.prog W (sentVars ++ [("mapreduce/mapreduce.nibbleSums", Rows.laid_mapreduce_mapreduce_nibbleSums), ("internal/strconv.uint64pow10", Rows.laid_internal_strconv_uint64pow10), ("math/bits.deBruijn32tab", Rows.laid_math_bits_deBruijn32tab), ("math/bits.deBruijn64tab", Rows.laid_math_bits_deBruijn64tab), ("unicode/utf8.first", Rows.laid_unicode_utf8_first), ("unicode/utf8.acceptRanges", Rows.laid_unicode_utf8_acceptRanges)]) ps := hv
  obtain ⟨q, _, a, hq, _, S⟩ := sents_of hv' hnd hrows hh
  exact ⟨a, S, tab_of hq⟩
end Go.Proofs.YtibofakbhgmhiaaGreatDoor
