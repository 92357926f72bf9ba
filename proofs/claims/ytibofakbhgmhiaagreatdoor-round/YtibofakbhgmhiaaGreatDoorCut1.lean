import Derived.Test.YtibofakbhgmhiaaGreatDoorNum
import Derived.Test.YtibofakbhgmhiaaGreatDoorNumAt
import Derived.Test.YtibofakbhgmhiaaGreatDoorClone
namespace Go.Proofs.YtibofakbhgmhiaaGreatDoor
open Go.RowKit Rd

def noneE : Value := .agg #[.string ⟨#[]⟩, .string ⟨#[]⟩]

set_option maxHeartbeats 1000000 in
set_option maxRecDepth 100000 in
theorem cutShort1 (a : Nat → Addr) (t : ByteArray) (w : World) (S : Sents w a) (ht : t.size < 8) :
    Calls Tryz.prog 195 #[.string t] w fun e w' => e = .returned (.tuple #[noneE, .string ⟨#[]⟩, .iface 513 (.pointer (some (a 1)))]) ∧ Below w.heap.size w w' := by
  have c1 := (S.below ((Below.refl _ _).alloc (Nat.le_refl _) (.cells #[.string ⟨#[]⟩, .string ⟨#[]⟩] 32))).c1
  go_enter Tryz.func195, Tryz.ntmps195
  go_wp2_with fail
  go_region
  go_wp2
  exact bodyPost_ret (v := .tuple #[noneE, .string ⟨#[]⟩, .iface 513 (.pointer (some (a 1)))]) (by simp [results, Tryz.results195, go_sem, noneE]) rfl ⟨rfl, by repeat (first | exact Below.refl _ _ | refine Below.drew ?_ | refine below_drewN ?_ _ | refine Below.alloc ?_ (by simp) _ | refine Below.setCell ?_ (by simp) _)⟩

theorem past_stores {W : World} {g X n : Nat} {v u0 u1 : Value} (h : W.cell? ⟨g, 0, none⟩ = some v) (hX : g < X) :
    (((W.drewN n).setCell ⟨X, 0, none⟩ u0).setCell ⟨X, 1, none⟩ u1).cell? ⟨g, 0, none⟩ = some v ∧ ((W.drewN n).setCell ⟨X, 0, none⟩ u0).cell? ⟨g, 0, none⟩ = some v := by
  have b0 : ((W.drewN n).setCell ⟨X, 0, none⟩ u0).cell? ⟨g, 0, none⟩ = some v := by
    rw [World.cell?_of_block (w := W.drewN n) (Below.heap_setCell _ _ _ _ (by simp; omega))]; exact h
  exact ⟨by rw [World.cell?_of_block (w := (W.drewN n).setCell ⟨X, 0, none⟩ u0) (Below.heap_setCell _ _ _ _ (by simp; omega))]; exact b0, b0⟩

set_option maxHeartbeats 1000000 in
set_option maxRecDepth 100000 in
theorem cutShort2 (a : Nat → Addr) (t : ByteArray) (w : World) (S : Sents w a) (ht : 8 ≤ t.size) (htl : t.size ≤ 70368744177664) (hsh : t.size < 8 + rd4 t.data.toList 0 + rd4 t.data.toList 4 + 4) :
    Calls Tryz.prog 195 #[.string t] w fun e w' => e = .returned (.tuple #[noneE, .string ⟨#[]⟩, .iface 513 (.pointer (some (a 1)))]) ∧ Below w.heap.size w w' := by
  have c1 := (S.below ((Below.refl _ _).alloc (Nat.le_refl _) (.cells #[.string ⟨#[]⟩, .string ⟨#[]⟩] 32))).c1
  have cs := fun n u0 u1 => (past_stores (n := n) (u0 := u0) (u1 := u1) c1 (cell_lt S.c1)).1
  have cr := fun n u0 => (past_stores (n := n) (u0 := u0) (u1 := u0) c1 (cell_lt S.c1)).2
  have hK := rd4_lt t.data.toList 0
  have hV := rd4_lt t.data.toList 4
  have n0 : ∀ W, Calls Tryz.prog 247 #[.string t, .int .i64 0] W fun e w' => e = .returned (.int .u32 (rd4 t.data.toList 0)) ∧ ∃ n, w' = W.drewN n := fun W => numberAt t 0 W (by omega) (by omega)
  have n4 : ∀ W, Calls Tryz.prog 247 #[.string t, .int .i64 4] W fun e w' => e = .returned (.int .u32 (rd4 t.data.toList 4)) ∧ ∃ n, w' = W.drewN n := fun W => numberAt t 4 W (by omega) (by omega)
  generalize rd4 t.data.toList 0 = K at *
  generalize rd4 t.data.toList 4 = V at *
  have N0 : Hid (∀ W, Calls Tryz.prog 247 #[.string t, .int .i64 0] W fun e w' => e = .returned (.int .u32 K) ∧ ∃ n, w' = W.drewN n) := n0
  have N4 : Hid (∀ W, Calls Tryz.prog 247 #[.string t, .int .i64 4] W fun e w' => e = .returned (.int .u32 V) ∧ ∃ n, w' = W.drewN n) := n4
  clear n0 n4
  go_enter Tryz.func195, Tryz.ntmps195
  go_wp2_with fail
  refine (N0.out _).mono ?_
  rintro e w1 ⟨rfl, q1, hw1⟩
  subst hw1
  go_wp2_with fail
  refine (N4.out _).mono ?_
  rintro e w2 ⟨rfl, q2, hw2⟩
  subst hw2
  go_wp2_with fail
  go_region
  go_wp2
  exact bodyPost_ret (v := .tuple #[noneE, .string ⟨#[]⟩, .iface 513 (.pointer (some (a 1)))]) (by simp [results, Tryz.results195, go_sem, noneE]) rfl ⟨rfl, by repeat (first | exact Below.refl _ _ | refine Below.drew ?_ | refine below_drewN ?_ _ | refine Below.alloc ?_ (by simp) _ | refine Below.setCell ?_ (by simp) _)⟩
end Go.Proofs.YtibofakbhgmhiaaGreatDoor
