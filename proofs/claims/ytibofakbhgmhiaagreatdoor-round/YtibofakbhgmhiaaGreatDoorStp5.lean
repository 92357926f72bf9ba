import Derived.Test.YtibofakbhgmhiaaGreatDoorStp2
namespace Go.Proofs.YtibofakbhgmhiaaGreatDoor
open Go.RowKit Rd

set_option maxHeartbeats 2000000 in
set_option maxRecDepth 100000 in
theorem step_num (Wb : Nat) (A B C : Int) (s t : ByteArray) (w : World) (ps : PS) (N : Nat) (K : KHas Wb w ps N) (h1 : -9223372036854775808 ≤ A) (h2 : A ≤ 9223372036854775807) :
    Calls Tryz.prog 23 #[.pointer (some ⟨Wb, 0, none⟩), opV 1 A B C s t] w fun e w' => e = .returned (.bool true) ∧ KHas Wb w' ps N ∧ Below Wb w w' := by
  obtain ⟨cs, ev, pv, rv, ne, nr, xe, xr, K⟩ := K
  have hb0 : Below w.heap.size w (w.alloc (.cells #[.int .i64 1, .int .i64 A, .int .i64 B, .int .i64 C, .string s, .string t] 53)) := (Below.refl _ _).alloc (Nat.le_refl _) _
  have K1 := K.grown hb0
  have hp := pk_lt A
  have hpk : Hid (∀ W, Calls Tryz.prog 30 #[.int .i64 A, .int .i64 8] W fun e w' => e = .returned (.int .i64 (pk A)) ∧ w' = W) := fun W => pick8 A W h1 h2
  generalize pk A = j at *
  obtain ⟨u, hu⟩ : ∃ u, cs[j]? = some u := ⟨cs[j]'(by have := K.size; omega), Array.getElem?_eq_getElem _⟩
  have cj := (K1.cell j).trans hu
  have fj := K1.frozen j
  have hj2 : (j : Int) < 8 := by omega
  have HFIN : Hid (KHas Wb (((w.setCell ⟨Wb, j, none⟩ (.int .i64 B)).alloc (.cells #[.int .i64 1, .int .i64 A, .int .i64 B, .int .i64 C, .string s, .string t] 53)).drew) ps N ∧ Below Wb w (((w.setCell ⟨Wb, j, none⟩ (.int .i64 B)).alloc (.cells #[.int .i64 1, .int .i64 A, .int .i64 B, .int .i64 C, .string s, .string t] 53)).drew)) := by
    obtain ⟨hk, hb⟩ := K.putNum j hp (.int .i64 B)
    obtain ⟨cs', ev', pv', rv', ne', nr', xe', xr', K'⟩ := hk
    exact ⟨⟨cs', ev', pv', rv', ne', nr', xe', xr', K'.grown (((Below.refl _ _).alloc (Nat.le_refl _) _).drew)⟩, (hb.alloc (Nat.le_of_lt K'.lt) _).drew⟩
  have hlt := K.lt
  clear K K1 hu h1 h2
  go_enter Tryz.func23, Tryz.ntmps23
  go_wp2_with fail
  go_region_with (go_at_call 30; refine (hpk.out _).mono ?_; rintro e w' ⟨rfl, rfl⟩)
  all_goals
    go_wp2
    go_ret
    exact ⟨rfl, HFIN.out⟩
end Go.Proofs.YtibofakbhgmhiaaGreatDoor
