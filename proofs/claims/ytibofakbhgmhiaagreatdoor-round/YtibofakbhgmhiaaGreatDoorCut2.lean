import Derived.Test.YtibofakbhgmhiaaGreatDoorCut1
namespace Go.Proofs.YtibofakbhgmhiaaGreatDoor
open Go.RowKit Rd

theorem take_extract (t : ByteArray) (n : Nat) : (t.extract 0 n).data.toList = t.data.toList.take n := by simp [ByteArray.data_extract]

set_option maxHeartbeats 1000000 in
set_option maxRecDepth 100000 in
theorem cutSum (a : Nat → Addr) (t : ByteArray) (w : World) (S : Sents w a) (hT : Tab w) (hG : 12 < w.heap.size) (ht : 8 ≤ t.size) (htl : t.size ≤ 70368744177664) (hsh : 8 + rd4 t.data.toList 0 + rd4 t.data.toList 4 + 4 ≤ t.size)
    (hne : crcN (t.data.toList.take (8 + rd4 t.data.toList 0 + rd4 t.data.toList 4)) ≠ rd4 t.data.toList (8 + rd4 t.data.toList 0 + rd4 t.data.toList 4)) :
    Calls Tryz.prog 195 #[.string t] w fun e w' => e = .returned (.tuple #[noneE, .string ⟨#[]⟩, .iface 513 (.pointer (some (a 2)))]) ∧ Below w.heap.size w w' := by
  have c2 := (S.below ((Below.refl _ _).alloc (Nat.le_refl _) (.cells #[.string ⟨#[]⟩, .string ⟨#[]⟩] 32))).c2
  have cs := fun n u0 u1 => (past_stores (n := n) (u0 := u0) (u1 := u1) c2 (cell_lt S.c2)).1
  have cr := fun n u0 => (past_stores (n := n) (u0 := u0) (u1 := u0) c2 (cell_lt S.c2)).2
  have hK := rd4_lt t.data.toList 0
  have hV := rd4_lt t.data.toList 4
  have n0 : ∀ W, Calls Tryz.prog 247 #[.string t, .int .i64 0] W fun e w' => e = .returned (.int .u32 (rd4 t.data.toList 0)) ∧ ∃ n, w' = W.drewN n := fun W => numberAt t 0 W (by omega) (by omega)
  have n4 : ∀ W, Calls Tryz.prog 247 #[.string t, .int .i64 4] W fun e w' => e = .returned (.int .u32 (rd4 t.data.toList 4)) ∧ ∃ n, w' = W.drewN n := fun W => numberAt t 4 W (by omega) (by omega)
  generalize rd4 t.data.toList 0 = K at *
  generalize rd4 t.data.toList 4 = V at *
  have nS := fun W => numberAt t (8 + K + V) W (by omega) (by omega)
  generalize rd4 t.data.toList (8 + K + V) = Z at *
  have N0 : Hid (∀ W, Calls Tryz.prog 247 #[.string t, .int .i64 0] W fun e w' => e = .returned (.int .u32 K) ∧ ∃ n, w' = W.drewN n) := n0
  have N4 : Hid (∀ W, Calls Tryz.prog 247 #[.string t, .int .i64 4] W fun e w' => e = .returned (.int .u32 V) ∧ ∃ n, w' = W.drewN n) := n4
  have NS : Hid (∀ W, Calls Tryz.prog 247 #[.string t, .int .i64 ((8 + K + V : Nat) : Int)] W fun e w' => e = .returned (.int .u32 Z) ∧ ∃ n, w' = W.drewN n) := nS
  clear n0 n4 nS
  go_enter Tryz.func195, Tryz.ntmps195
  go_wp2_with fail
  refine (N0.out _).mono ?_
  rintro e w1 ⟨rfl, q1, hw1⟩
  subst hw1
  go_wp2_with fail
  refine (N4.out _).mono ?_
  rintro e w2 ⟨rfl, q2, hw2⟩
  subst hw2
  go_wp2_with fail
  refine (sumStr (t.extract 0 (8 + K + V)) _ (by simp [maxLen]; omega) (Tab.below hT (below_drewN ((Below.refl _ _).alloc (Nat.le_refl _) _) _) hG)).mono ?_
  rintro e w3 ⟨rfl, hw3⟩
  subst hw3
  rw [take_extract]
  generalize crcN (t.data.toList.take (8 + K + V)) = Y at *
  have hb : (((Y : Nat) : Int) != ((Z : Nat) : Int)) = true := by simp; omega
  clear hne
  go_wp2_with fail
  rw [show (8 + (K : Int) + (V : Int)) = ((8 + K + V : Nat) : Int) by omega]
  refine (NS.out _).mono ?_
  rintro e w4 ⟨rfl, q4, hw4⟩
  subst hw4
  go_wp2_with fail
  go_region
  go_wp2
  exact bodyPost_ret (v := .tuple #[noneE, .string ⟨#[]⟩, .iface 513 (.pointer (some (a 2)))]) (by simp [results, Tryz.results195, go_sem, noneE]) rfl ⟨rfl, by repeat (first | exact Below.refl _ _ | refine Below.drew ?_ | refine below_drewN ?_ _ | refine Below.alloc ?_ (by simp) _ | refine Below.setCell ?_ (by simp) _)⟩
end Go.Proofs.YtibofakbhgmhiaaGreatDoor
