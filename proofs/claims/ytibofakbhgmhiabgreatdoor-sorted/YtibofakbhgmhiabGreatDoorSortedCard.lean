import Derived.Test.YtibofakbhgmhiabGreatDoorSRow
import Derived.Test.YtibofakbhgmhiabGreatDoorCards
import Derived.Test.YtibofakbhgmhiabGreatDoorTxSorted
import Derived.Test.YtibofakbhgmhiabGreatDoorCrd
namespace Go.Proofs.YtibofakbhgmhiabGreatDoor

theorem sortedCard_holds : Rows.SortedCardSaid :=
  card_g Rows.sortedCard.goes Rows.sortedCard.laidKinds true Rows.sortedCard.stood.harness true
    sorted_holds (by as_aux_lemma => kernel_rfl) sorted_row_tie rfl ⟨rfl, rfl⟩ (by as_aux_lemma => kernel_rfl) rfl
    (fun f fn hf hfn => by
      obtain rfl : f = 3 := Option.some.inj ((show Tryz.prog.funcNamed "mapreduce/mapreducekeep.Sorted" = some 3 by kernel_rfl).symm.trans hf) |>.symm
      obtain rfl : fn = Tryz.f3 := (Option.some.inj (Tryz.func3.symm.trans hfn)).symm
      exact ⟨by kernel_rfl, fun j t ht => by
        rw [Tryz.params3] at ht
        have hm : t ∈ [22] := by simpa using Array.mem_of_getElem? ht
        have hall : ([22].all fun u => !Tryz.prog.wantsStandIn u) = true := by kernel_rfl
        exact (show Tryz.prog.wantsStandIn t = false by simpa using List.all_eq_true.1 hall t hm)⟩)
    (by as_aux_lemma => kernel_rfl)
#print axioms sortedCard_holds
end Go.Proofs.YtibofakbhgmhiabGreatDoor
