import Derived.Test.YtofkcoffjlckmaaGreatDoorSts
import Derived.Test.YtofkcoffjlckmaaGreatDoorSum
import Derived.Lib.LaidTab
import Derived.Lay
namespace Go.Proofs.YtofkcoffjlckmaaGreatDoor
open Go.ChangeShapes Go.WideShapes Go.RowKit

theorem Tryz.gNib : Tryz.prog.globalNamed "mapreduce/mapreduce.nibbleSums" = some 12 := by kernel_rfl
theorem Tryz.tNib : (Tryz.prog.globals[12]?).map (·.type) = some 372 := by kernel_rfl
theorem Tryz.cellsU32 : Tryz.prog.cellsOf 128 = 1 := by kernel_rfl
theorem Tryz.cellsNib : Tryz.prog.cellsOf 372 = 16 := by kernel_rfl
theorem nib_data : Rows.laid_mapreduce_mapreduce_nibbleSums = (Lib.tabData .u32 (tabN.map fun (n : Nat) => (n : Int)) : DataW Unit) := by kernel_rfl

theorem tab_of {W : World} {r : List (String × DataW Unit)} {ps : List MemPlace} (h : DataW.LaidVars Tryz.prog W (("mapreduce/mapreduce.nibbleSums", Rows.laid_mapreduce_mapreduce_nibbleSums) :: r) ps) : Tab W := by
  obtain ⟨g, t, cs, fuel, p, q, hg, ht, hv, hd, _, _⟩ := h
  obtain rfl := Option.some.inj (Tryz.gNib.symm.trans hg)
  obtain rfl := Option.some.inj (Tryz.tNib.symm.trans ht)
  rw [nib_data] at hd
  have e := Lib.cells_of_tab Tryz.underlying372 Tryz.underlying128 Tryz.cellsU32 Tryz.cellsNib hd
  intro j hj
  rw [World.var?_cell hg hv j]
  have e2 : cs[j]? = cs.toList[j]? := by simp
  rw [e2, e]
  have hl : tabN.length = 16 := rfl
  simp [tabAt, List.getD, List.getElem?_eq_getElem (show j < tabN.length by omega)]

theorem peel {W : World} {x : String × DataW Unit} {r : List (String × DataW Unit)} {ps : List MemPlace} (h : DataW.LaidVars Tryz.prog W (x :: r) ps) (hnd : ps.Nodup)
    (hrows : ∀ b off, MemPlace.cell b off ∈ ps → (∃ c t, W.heap[b]? = some (.cells c t (0, 0))) ∧ ∀ u v, W.cell? ⟨b, off, none⟩ = some (.iface u v) → Value.okWide Tryz.prog W .any 0 u v) :
    ∃ q, DataW.LaidVars Tryz.prog W r q ∧ q.Nodup ∧ (∀ b off, MemPlace.cell b off ∈ q → (∃ c t, W.heap[b]? = some (.cells c t (0, 0))) ∧ ∀ u v, W.cell? ⟨b, off, none⟩ = some (.iface u v) → Value.okWide Tryz.prog W .any 0 u v) := by
  obtain ⟨g, t, cs, fuel, p, q, _, _, _, _, hr, rfl⟩ := h
  exact ⟨q, hr, (List.nodup_append.1 hnd).2.1, fun b off hm => hrows b off (by simp [hm])⟩

theorem round_facts {W : World} (h : laidMetH Tryz.prog Rows.roundRow.laid W) : ∃ a, Sents W a ∧ Tab W := by
  have h' : laidMet Tryz.prog (("math/bits.deBruijn32tab", Rows.laid_math_bits_deBruijn32tab) :: ("math/bits.deBruijn64tab", Rows.laid_math_bits_deBruijn64tab) :: ("internal/strconv.uint64pow10", Rows.laid_internal_strconv_uint64pow10) :: ("unicode/utf8.acceptRanges", Rows.laid_unicode_utf8_acceptRanges) :: (sentVars ++ [("mapreduce/mapreduce.nibbleSums", Rows.laid_mapreduce_mapreduce_nibbleSums), ("unicode/utf8.first", Rows.laid_unicode_utf8_first)])) W ∧ handlesMet Tryz.prog [("errors.errorType", Rows.laid_errors_errorType)] W := h
  obtain ⟨⟨ps, hv, hnd, hrows⟩, hh⟩ := h'
  obtain ⟨p1, v1, n1, r1⟩ := peel hv hnd hrows
  obtain ⟨p2, v2, n2, r2⟩ := peel v1 n1 r1
  obtain ⟨p3, v3, n3, r3⟩ := peel v2 n2 r2
  obtain ⟨p4, v4, n4, r4⟩ := peel v3 n3 r3
  obtain ⟨q, _, a, hq, _, S⟩ := sents_of v4 n4 r4 hh
  exact ⟨a, S, tab_of hq⟩
end Go.Proofs.YtofkcoffjlckmaaGreatDoor
