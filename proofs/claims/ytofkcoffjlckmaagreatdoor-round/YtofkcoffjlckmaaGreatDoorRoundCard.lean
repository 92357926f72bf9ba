import Derived.Test.YtofkcoffjlckmaaGreatDoorRndRow
import Derived.Test.YtofkcoffjlckmaaGreatDoorCards
import Derived.Test.YtofkcoffjlckmaaGreatDoorTie
import Derived.SevenTiedAt
namespace Go.Proofs.YtofkcoffjlckmaaGreatDoor

theorem roundCard_holds : Rows.RoundCardSaid :=
  Claim7.holds_tied_plain_at .later [] Rows.roundCard.laidKinds true Rows.roundCard.stood.harness true
    round_holds (fun _ h => by cases h) (by as_aux_lemma => kernel_rfl) (fun _ h => by cases h) round_row_tie rfl ⟨rfl, rfl⟩ (by as_aux_lemma => kernel_rfl) rfl
    (fun f fn hf hfn => by
      obtain rfl : f = 9 := Option.some.inj ((show Tryz.prog.funcNamed "mapreduce/mapreducekeep.Round" = some 9 by kernel_rfl).symm.trans hf) |>.symm
      obtain rfl : fn = Tryz.f9 := (Option.some.inj (Tryz.func9.symm.trans hfn)).symm
      exact ⟨by kernel_rfl, fun j t ht => by
        rw [Tryz.params9] at ht
        have hm : t ∈ [25] := by simpa using Array.mem_of_getElem? ht
        have hall : ([25].all fun u => !Tryz.prog.wantsStandIn u) = true := by kernel_rfl
        exact (show Tryz.prog.wantsStandIn t = false by simpa using List.all_eq_true.1 hall t hm)⟩)
    (by as_aux_lemma => kernel_rfl)
#print axioms roundCard_holds
end Go.Proofs.YtofkcoffjlckmaaGreatDoor
