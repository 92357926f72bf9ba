import Derived.Test.YtibofakbhgmhiaaGreatDoorRndRow
import Derived.Test.YtibofakbhgmhiaaGreatDoorCards
import Derived.Test.YtibofakbhgmhiaaGreatDoorTxRound
import Derived.Test.YtibofakbhgmhiaaGreatDoorCrd
namespace Go.Proofs.YtibofakbhgmhiaaGreatDoor

theorem roundCard_holds : Rows.RoundCardSaid :=
  card_g Rows.roundCard.goes Rows.roundCard.laidKinds true Rows.roundCard.stood.harness true
    round_holds (by as_aux_lemma => kernel_rfl) round_row_tie rfl ⟨rfl, rfl⟩ (by as_aux_lemma => kernel_rfl) rfl
    (fun f fn hf hfn => by
      obtain rfl : f = 13 := Option.some.inj ((show Tryz.prog.funcNamed "mapreduce/mapreducekeep.Round" = some 13 by kernel_rfl).symm.trans hf) |>.symm
      obtain rfl : fn = Tryz.f13 := (Option.some.inj (Tryz.func13.symm.trans hfn)).symm
      exact ⟨by kernel_rfl, fun j t ht => by
        rw [Tryz.params13] at ht
        have hm : t ∈ [26] := by simpa using Array.mem_of_getElem? ht
        have hall : ([26].all fun u => !Tryz.prog.wantsStandIn u) = true := by kernel_rfl
        exact (show Tryz.prog.wantsStandIn t = false by simpa using List.all_eq_true.1 hall t hm)⟩)
    (by as_aux_lemma => kernel_rfl)
#print axioms roundCard_holds
end Go.Proofs.YtibofakbhgmhiaaGreatDoor
