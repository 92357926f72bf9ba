import Derived.Test.YtibofakbhgmhiabGreatDoorProg
import Derived.WalkKit
import Derived.WalkLawsBesides
import Derived.Below
import Derived.WalkSmall
import Derived.Deep.QuietTactic
import Derived.BigQuiet
import Derived.OneCell
namespace Go.Proofs.YtibofakbhgmhiabGreatDoor
open Go.RowKit

theorem hp_lt {w : World} {p : Addr} {v : Value} (h : w.cell? p = some v) : p.block < w.heap.size := by
  unfold World.cell? at h
  rcases Nat.lt_or_ge p.block w.heap.size with hlt | hge
  · exact hlt
  · rw [Array.getElem?_eq_none hge] at h; simp at h

theorem pless (k1 t1 k2 t2 : Int) (w : World) :
    Calls Tryz.prog 76 #[.agg #[.int .i64 k1, .int .i64 t1], .agg #[.int .i64 k2, .int .i64 t2]] w fun e w' => e = .returned (.bool (decide (k1 < k2))) ∧ Below w.heap.size w w' := by
  have hb : Below w.heap.size w ((w.alloc (.cells #[.int .i64 k1, .int .i64 t1] 106)).alloc (.cells #[.int .i64 k2, .int .i64 t2] 106)) := ((Below.refl _ _).alloc (Nat.le_refl _) _).alloc (by simp) _
  go_enter Tryz.func76, Tryz.ntmps76
  go_wp2
  go_ret
  exact ⟨rfl, hb⟩

/-- the order of heads: by the thing, alike ones by the run -/
def ltH (k1 r1 k2 r2 : Int) : Bool := decide (k1 < k2) || (decide (r1 < r2) && !decide (k2 < k1))

set_option maxHeartbeats 1000000 in
set_option maxRecDepth 100000 in
theorem order1 (k1 t1 r1 n1 k2 t2 r2 n2 : Int) (Lb : Nat) (w : World) (hL : w.cell? ⟨Lb, 0, none⟩ = some (.func (.func 76) #[] #[])) :
    Calls Tryz.prog 282 #[.agg #[.int .i64 k1, .int .i64 t1, .int .i64 r1, .int .i64 n1], .agg #[.int .i64 k2, .int .i64 t2, .int .i64 r2, .int .i64 n2], .pointer (some ⟨Lb, 0, none⟩)] w
      fun e w' => e = .returned (.bool (ltH k1 r1 k2 r2)) ∧ Below w.heap.size w w' := by
  have hLlt : Lb < w.heap.size := hp_lt hL
  have hb : Below w.heap.size w ((w.alloc (.cells #[.int .i64 k1, .int .i64 t1, .int .i64 r1, .int .i64 n1] 384)).alloc (.cells #[.int .i64 k2, .int .i64 t2, .int .i64 r2, .int .i64 n2] 384)) := ((Below.refl _ _).alloc (Nat.le_refl _) _).alloc (by simp) _
  have hL2 := (hb.cell (p := ⟨Lb, 0, none⟩) hLlt).trans hL
  have HC : Hid (∀ w1, Below ((w.alloc (.cells #[.int .i64 k1, .int .i64 t1, .int .i64 r1, .int .i64 n1] 384)).alloc (.cells #[.int .i64 k2, .int .i64 t2, .int .i64 r2, .int .i64 n2] 384)).heap.size ((w.alloc (.cells #[.int .i64 k1, .int .i64 t1, .int .i64 r1, .int .i64 n1] 384)).alloc (.cells #[.int .i64 k2, .int .i64 t2, .int .i64 r2, .int .i64 n2] 384)) w1 →
      w1.cell? ⟨Lb, 0, none⟩ = some (.func (.func 76) #[] #[]) ∧ w1.cell? ⟨w.heap.size, 0, none⟩ = some (.int .i64 k1) ∧ w1.cell? ⟨w.heap.size, 1, none⟩ = some (.int .i64 t1) ∧ w1.cell? ⟨w.heap.size, 2, none⟩ = some (.int .i64 r1) ∧
      w1.cell? ⟨w.heap.size + 1, 0, none⟩ = some (.int .i64 k2) ∧ w1.cell? ⟨w.heap.size + 1, 1, none⟩ = some (.int .i64 t2) ∧ w1.cell? ⟨w.heap.size + 1, 2, none⟩ = some (.int .i64 r2) ∧ Below w.heap.size w w1) := by
    intro w1 hb1
    refine ⟨(hb1.cell (p := ⟨Lb, 0, none⟩) (by simp; omega)).trans hL2, ?_, ?_, ?_, ?_, ?_, ?_, hb.trans (hb1.mono (by simp; omega))⟩
    · exact (hb1.cell (p := ⟨w.heap.size, 0, none⟩) (by simp; omega)).trans (by rw [World.cell?_alloc_lt _ _ _ (by simp), World.cell?_alloc_at _ _ _ _ (by simp)]; rfl)
    · exact (hb1.cell (p := ⟨w.heap.size, 1, none⟩) (by simp; omega)).trans (by rw [World.cell?_alloc_lt _ _ _ (by simp), World.cell?_alloc_at _ _ _ _ (by simp)]; rfl)
    · exact (hb1.cell (p := ⟨w.heap.size, 2, none⟩) (by simp; omega)).trans (by rw [World.cell?_alloc_lt _ _ _ (by simp), World.cell?_alloc_at _ _ _ _ (by simp)]; rfl)
    · exact (hb1.cell (p := ⟨w.heap.size + 1, 0, none⟩) (by simp)).trans (by rw [show w.heap.size + 1 = (w.alloc (.cells #[.int .i64 k1, .int .i64 t1, .int .i64 r1, .int .i64 n1] 384)).heap.size from by simp, World.cell?_alloc_at _ _ _ _ (by simp)]; rfl)
    · exact (hb1.cell (p := ⟨w.heap.size + 1, 1, none⟩) (by simp)).trans (by rw [show w.heap.size + 1 = (w.alloc (.cells #[.int .i64 k1, .int .i64 t1, .int .i64 r1, .int .i64 n1] 384)).heap.size from by simp, World.cell?_alloc_at _ _ _ _ (by simp)]; rfl)
    · exact (hb1.cell (p := ⟨w.heap.size + 1, 2, none⟩) (by simp)).trans (by rw [show w.heap.size + 1 = (w.alloc (.cells #[.int .i64 k1, .int .i64 t1, .int .i64 r1, .int .i64 n1] 384)).heap.size from by simp, World.cell?_alloc_at _ _ _ _ (by simp)]; rfl)
  by_cases h1 : k1 < k2
  · go_enter Tryz.func282, Tryz.ntmps282
    go_wp2_with (go_at_call 76; refine (pless k1 t1 k2 t2 _).mono ?_; rintro e w1 ⟨rfl, hb1⟩; obtain ⟨d0, d1, d2, d3, d4, d5, d6, d7⟩ := HC.out w1 hb1)
    all_goals go_ret
    all_goals exact ⟨by simp [ltH, h1], d7⟩
  · by_cases h2 : r1 < r2
    · go_enter Tryz.func282, Tryz.ntmps282
      go_wp2_with (first | (go_at_call 76; refine (pless k1 t1 k2 t2 _).mono ?_; rintro e w1 ⟨rfl, hb1⟩; obtain ⟨d0, d1, d2, d3, d4, d5, d6, d7⟩ := HC.out w1 hb1) | (go_at_call 76; refine (pless k2 t2 k1 t1 _).mono ?_; rintro e w2 ⟨rfl, hb2⟩))
      all_goals go_ret
      all_goals exact ⟨by simp [ltH, h2]; omega, d7.trans (hb2.mono d7.size)⟩
    · go_enter Tryz.func282, Tryz.ntmps282
      go_wp2_with (go_at_call 76; refine (pless k1 t1 k2 t2 _).mono ?_; rintro e w1 ⟨rfl, hb1⟩; obtain ⟨d0, d1, d2, d3, d4, d5, d6, d7⟩ := HC.out w1 hb1)
      all_goals go_ret
      all_goals exact ⟨by simp [ltH, h1]; omega, d7⟩
end Go.Proofs.YtibofakbhgmhiabGreatDoor
