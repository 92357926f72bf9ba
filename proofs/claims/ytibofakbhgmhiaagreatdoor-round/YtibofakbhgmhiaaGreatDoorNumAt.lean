import Derived.Test.YtibofakbhgmhiaaGreatDoorSum
import Derived.Test.YtibofakbhgmhiaaGreatDoorRMath
import Derived.Deep.QuietTactic
import Derived.BigQuiet
namespace Go.Proofs.YtibofakbhgmhiaaGreatDoor
open Go.RowKit Rd

theorem idx (s : ByteArray) (j : Nat) (n : Int) (hn : n = (j : Int)) (h : j < s.size) (w : World) : (Instr.index 9 (.string s) (.int .i64 n)).run Tryz.prog w = .ok (.int .u8 ((s.data.toList.getD j 0).toNat : Int)) w := by
  subst hn
  rw [run_index_string _ _ _ _ _ Tryz.underlying9]
  have : (s.data.toList.getD j 0) = s[j] := by
    have h' : j < s.data.toList.length := by simpa using h
    rw [List.getD, List.getElem?_eq_getElem h']
    rfl
  rw [this]
  simp [h]

theorem or4 (y0 y1 y2 y3 : Nat) (h0 : y0 < 256) (h1 : y1 < 256) (h2 : y2 < 256) (h3 : y3 < 256) :
    bits .or .u32 (bits .or .u32 (bits .or .u32 ((y0 : Int) * 16777216) ((y1 : Int) * 65536)) ((y2 : Int) * 256)) (y3 : Int) = ((y0 * 16777216 + y1 * 65536 + y2 * 256 + y3 : Nat) : Int) := by
  rw [show ((y0 : Int) * 16777216) = ((y0 * 16777216 : Nat) : Int) by omega, show ((y1 : Int) * 65536) = ((y1 * 65536 : Nat) : Int) by omega, show ((y2 : Int) * 256) = ((y2 * 256 : Nat) : Int) by omega]
  rw [u32_or_nat _ _ (by omega) (by omega), nat_join 24 _ _ (by omega) (by omega), u32_or_nat _ _ (by omega) (by omega), nat_join 16 _ _ (by omega) (by omega), u32_or_nat _ _ (by omega) (by omega), nat_join 8 _ _ (by omega) (by omega)]

set_option maxHeartbeats 1000000 in
theorem numberAt (s : ByteArray) (i : Nat) (w : World) (hs : s.size ≤ 281474976710656) (hi : i + 4 ≤ s.size) :
    Calls Tryz.prog 247 #[.string s, .int .i64 i] w fun e w' => e = .returned (.int .u32 (rd4 s.data.toList i)) ∧ ∃ n, w' = w.drewN n := by
  have i0 := fun w => idx s i (i : Int) rfl (by omega) w
  have i1 := fun w => idx s (i + 1) ((i : Int) + 1) (by omega) (by omega) w
  have i2 := fun w => idx s (i + 2) ((i : Int) + 2) (by omega) (by omega) w
  have i3 := fun w => idx s (i + 3) ((i : Int) + 3) (by omega) (by omega) w
  have b0 := (s.data.toList.getD i 0).toNat_lt
  have b1 := (s.data.toList.getD (i + 1) 0).toNat_lt
  have b2 := (s.data.toList.getD (i + 2) 0).toNat_lt
  have b3 := (s.data.toList.getD (i + 3) 0).toNat_lt
  have HR : Hid (rd4 s.data.toList i = (s.data.toList.getD i 0).toNat * 16777216 + (s.data.toList.getD (i + 1) 0).toNat * 65536 + (s.data.toList.getD (i + 2) 0).toNat * 256 + (s.data.toList.getD (i + 3) 0).toNat) := rfl
  generalize (s.data.toList.getD i 0).toNat = y0 at *
  generalize (s.data.toList.getD (i + 1) 0).toNat = y1 at *
  generalize (s.data.toList.getD (i + 2) 0).toNat = y2 at *
  generalize (s.data.toList.getD (i + 3) 0).toNat = y3 at *
  go_enter Tryz.func247, Tryz.ntmps247
  go_wp2_with fail
  go_quiet (fail)
  have hor := or4 y0 y1 y2 y3 b0 b1 b2 b3
  go_wp2
  go_ret
  exact ⟨by rw [HR.out, ← hor]; rfl, _, rfl⟩
end Go.Proofs.YtibofakbhgmhiaaGreatDoor
