import Derived.Test.YtibofakbhgmhiaaGreatDoorRndLift
namespace Go.Proofs.YtibofakbhgmhiaaGreatDoor

theorem round_named : Tryz.pinned.checked.prog.funcNamed Rows.roundRow.func = some 13 := by kernel_rfl
set_option maxHeartbeats 4000000 in
theorem round_closed : joinedFacts Tryz.pinned.checked.prog 13 Tryz.f13 Rows.roundSpec Rows.roundRow = true := by
  unfold joinedFacts
  simp only [Bool.and_eq_true]
  repeat' apply And.intro
  all_goals (as_aux_lemma => kernel_rfl)
theorem round_inst : decide (Tryz.f13.isInstance Tryz.pinned.checked.prog Rows.roundRow.origin Rows.roundRow.targs) = true := by kernel_rfl
theorem round_wrap : Tryz.f13.isWrapper Tryz.pinned.checked.prog Rows.roundRow.wrapper Rows.roundRow.mainSum := by
  unfold Func.isWrapper; rw [if_neg (of_decide_eq_false (by kernel_rfl))]; exact ⟨rfl, rfl⟩

theorem round_holds : Rows.RoundSaid :=
  OpenClaim.holds_of_wide 13 Tryz.f13 rfl rfl rfl rfl rfl rfl rfl ⟨rfl, rfl, rfl, rfl, rfl⟩ rfl rfl rfl rfl rfl round_named Tryz.func13 round_closed
    (of_decide_eq_true round_inst) round_wrap
    (fun os started H enc _ => round_lifted os started H enc)
end Go.Proofs.YtibofakbhgmhiaaGreatDoor
