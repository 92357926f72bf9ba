import Derived.Test.YtibofakbhgmhiabGreatDoorOpn
import Derived.Test.YtibofakbhgmhiabGreatDoorRows
import Derived.ProofKit
import Derived.LaidLaws
import Derived.LaidHandle
namespace Go.Proofs.YtibofakbhgmhiabGreatDoor

theorem leases_named : Tryz.pinned.checked.prog.funcNamed Rows.leasesRow.func = some 4 := by kernel_rfl
set_option maxHeartbeats 4000000 in
theorem leases_closed : joinedFacts Tryz.pinned.checked.prog 4 Tryz.f4 Rows.leasesSpec Rows.leasesRow = true := by
  unfold joinedFacts
  simp only [Bool.and_eq_true]
  repeat' apply And.intro
  all_goals (as_aux_lemma => kernel_rfl)
theorem leases_inst : decide (Tryz.f4.isInstance Tryz.pinned.checked.prog Rows.leasesRow.origin Rows.leasesRow.targs) = true := by kernel_rfl
theorem leases_wrap : Tryz.f4.isWrapper Tryz.pinned.checked.prog Rows.leasesRow.wrapper Rows.leasesRow.mainSum := by
  unfold Func.isWrapper; rw [if_neg (of_decide_eq_false (by kernel_rfl))]; exact ⟨rfl, rfl⟩

end Go.Proofs.YtibofakbhgmhiabGreatDoor
