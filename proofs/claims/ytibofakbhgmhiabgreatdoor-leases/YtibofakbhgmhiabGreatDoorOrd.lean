import Derived.Test.YtibofakbhgmhiabGreatDoorFst
namespace Go.Proofs.YtibofakbhgmhiabGreatDoor
open Go.RowKit
theorem headOrder (w : World) :
    Calls Tryz.prog 231 #[.func (.func 76) #[] #[]] w fun e w' => e = .returned (.func (.func 282) #[] #[.pointer (some ⟨w.heap.size, 0, none⟩)]) ∧ w' = w.alloc (.cells #[.func (.func 76) #[] #[]] 175) := by
  have hmf : ∀ (fn : Fn) (first cap : Array Value) (w : World), (Instr.makeFunc fn first cap).run Tryz.prog w = .ok (.func fn first cap) w := fun _ _ _ _ => rfl
  go_enter Tryz.func231, Tryz.ntmps231
  go_wp2
  go_ret
  exact ⟨rfl, rfl⟩
end Go.Proofs.YtibofakbhgmhiabGreatDoor
