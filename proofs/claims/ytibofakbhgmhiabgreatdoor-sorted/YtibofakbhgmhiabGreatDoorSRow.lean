import Derived.Test.YtibofakbhgmhiabGreatDoorSLift
namespace Go.Proofs.YtibofakbhgmhiabGreatDoor

theorem sorted_named : Tryz.pinned.checked.prog.funcNamed Rows.sortedRow.func = some 3 := by kernel_rfl
set_option maxHeartbeats 4000000 in
theorem sorted_closed : joinedFacts Tryz.pinned.checked.prog 3 Tryz.f3 Rows.sortedSpec Rows.sortedRow = true := by
  unfold joinedFacts
  simp only [Bool.and_eq_true]
  repeat' apply And.intro
  all_goals (as_aux_lemma => kernel_rfl)
theorem sorted_inst : decide (Tryz.f3.isInstance Tryz.pinned.checked.prog Rows.sortedRow.origin Rows.sortedRow.targs) = true := by kernel_rfl
theorem sorted_wrap : Tryz.f3.isWrapper Tryz.pinned.checked.prog Rows.sortedRow.wrapper Rows.sortedRow.mainSum := by
  unfold Func.isWrapper; rw [if_neg (of_decide_eq_false (by kernel_rfl))]; exact ⟨rfl, rfl⟩

theorem sorted_holds : Rows.SortedSaid :=
  OpenClaim.holds_of_wide 3 Tryz.f3 rfl rfl rfl rfl rfl rfl rfl ⟨rfl, rfl, rfl, rfl, rfl⟩ rfl rfl rfl rfl rfl sorted_named Tryz.func3 sorted_closed
    (of_decide_eq_true sorted_inst) sorted_wrap
    (fun os started H enc _ => sorted_lifted os started H enc)
end Go.Proofs.YtibofakbhgmhiabGreatDoor
