import Derived.Test.YtibofakbhgmhiabGreatDoorSMg
namespace Go.Proofs.YtibofakbhgmhiabGreatDoor
open Go.RowKit

set_option maxHeartbeats 2000000 in
set_option maxRecDepth 100000 in
theorem step_merge (Wb : Nat) (A B C : Int) (s t : ByteArray) (w : World) (rr : List (List Int)) (N : Nat) (K : KHas Wb w rr N) (hS : ∀ r ∈ rr, Srt r) (hl : lens rr ≤ 1048576) (hn : N ≤ 1048576) :
    Calls Tryz.prog 11 #[.pointer (some ⟨Wb, 0, none⟩), opV 8 A B C s t] w fun e w' => e = .returned (.bool true) ∧ Below w.heap.size w w' := by
  obtain ⟨cs, ev, pv, rv, ne, np, xe, xp, xr, K⟩ := K
  have hb0 : Below w.heap.size w (w.alloc (.cells #[.int .i64 8, .int .i64 A, .int .i64 B, .int .i64 C, .string s, .string t] 45)) := (Below.refl _ _).alloc (Nat.le_refl _) _
  have K1 := K.grown hb0
  have c10 := (K1.cell 10).trans K1.e10
  have hI := iruns_of K1.or K1.rows
  have hlr := K.lr
  have HM : Hid (Calls Tryz.prog 24 #[.pointer (some ⟨Wb, 0, none⟩), .int .i64 A] (w.alloc (.cells #[.int .i64 8, .int .i64 A, .int .i64 B, .int .i64 C, .string s, .string t] 45)) fun e w' => e = .returned (.bool true) ∧ Below w.heap.size w w') := by
    refine (merge Wb rr rv A _ c10 hI hS hl (by omega)).mono ?_
    rintro e w1 ⟨rfl, hb1⟩
    exact ⟨rfl, hb0.trans (hb1.mono (by simp))⟩
  clear K K1 hI c10
  go_enter Tryz.func11, Tryz.ntmps11
  go_wp2_with (go_at_call 24; refine HM.out.mono ?_; rintro e w1 ⟨rfl, hb1⟩)
  go_ret
  exact ⟨rfl, hb1⟩
end Go.Proofs.YtibofakbhgmhiabGreatDoor
