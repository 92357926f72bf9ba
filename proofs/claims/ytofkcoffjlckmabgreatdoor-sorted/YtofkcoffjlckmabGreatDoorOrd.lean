import Derived.Test.YtofkcoffjlckmabGreatDoorFst
namespace Go.Proofs.YtofkcoffjlckmabGreatDoor
open Go.RowKit
theorem headOrder (w : World) :
    Calls Tryz.prog 131 #[.func (.func 52) #[] #[]] w fun e w' => e = .returned (.func (.func 162) #[] #[.pointer (some ⟨w.heap.size, 0, none⟩)]) ∧ w' = w.alloc (.cells #[.func (.func 52) #[] #[]] 122) := by
  have hmf : ∀ (fn : Fn) (first cap : Array Value) (w : World), (Instr.makeFunc fn first cap).run Tryz.prog w = .ok (.func fn first cap) w := fun _ _ _ _ => rfl
  go_enter Tryz.func131, Tryz.ntmps131
  go_wp2
  go_ret
  exact ⟨rfl, rfl⟩
end Go.Proofs.YtofkcoffjlckmabGreatDoor
