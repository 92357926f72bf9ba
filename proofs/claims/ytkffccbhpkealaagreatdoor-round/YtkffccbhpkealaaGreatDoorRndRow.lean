import Derived.Test.YtkffccbhpkealaaGreatDoorRndLift
namespace Go.Proofs.YtkffccbhpkealaaGreatDoor

theorem round_named : Tryz.pinned.checked.prog.funcNamed Rows.roundRow.func = some 7 := by kernel_rfl
theorem round_closed : joinedFacts Tryz.pinned.checked.prog 7 Tryz.f7 Rows.roundSpec Rows.roundRow = true := by kernel_rfl
theorem round_inst : decide (Tryz.f7.isInstance Tryz.pinned.checked.prog Rows.roundRow.origin Rows.roundRow.targs) = true := by kernel_rfl
theorem round_wrap : Tryz.f7.isWrapper Tryz.pinned.checked.prog Rows.roundRow.wrapper Rows.roundRow.mainSum := by
  unfold Func.isWrapper; rw [if_neg (of_decide_eq_false (by kernel_rfl))]; exact ⟨rfl, rfl⟩

theorem round_holds : Rows.RoundSaid :=
  OpenClaim.holds_of_wide 7 Tryz.f7 rfl rfl rfl rfl rfl rfl rfl ⟨rfl, rfl, rfl, rfl, rfl⟩ rfl rfl rfl rfl rfl round_named Tryz.func7 round_closed
    (of_decide_eq_true round_inst) round_wrap
    (fun os started H enc _ => round_lifted os started H enc)
end Go.Proofs.YtkffccbhpkealaaGreatDoor
