import Derived.Test.YtibofakbhgmhiabGreatDoorHp6
import Derived.Deep.DeepCutAuto
import Derived.Deep.Cut
namespace Go.Proofs.YtibofakbhgmhiabGreatDoor
open Go.RowKit

theorem hc_take : ∀ (l : List Hd) (m : Nat), (hc l).take (m * 4) = hc (l.take m)
  | [], m => by simp [hc]
  | h :: t, 0 => by simp [hc]
  | h :: t, m + 1 => by
    rw [show (m + 1) * 4 = m * 4 + 4 from by omega]
    simp [hc, hc_take t m]

theorem own_take {w : World} {B : Nat} {e : TypeId} {g n cap m : Nat} {xs : List Value} {size : Nat} (h : w.ownsRow B e size (.slice (some ⟨g, 0, none⟩) n cap) n xs) (hm : m ≤ n) :
    w.ownsRow B e size (.slice (some ⟨g, 0, none⟩) m cap) m (xs.take (m * size)) := by
  rcases h with ⟨hl, hn | ⟨g', cap', cur, hv, hb, hg, hnc, hmx, hs, htk⟩⟩
  · cases hn.1
  · simp only [Value.slice.injEq, Option.some.injEq, Addr.mk.injEq] at hv
    obtain ⟨⟨rfl, _, _⟩, _, rfl⟩ := hv
    have hmn : m * size ≤ n * size := Nat.mul_le_mul_right _ hm
    refine ⟨by rw [List.length_take, hl]; omega, .inr ⟨g, cap, cur, rfl, hb, hg, by omega, hmx, hs, ?_⟩⟩
    rw [← htk, List.take_take, Nat.min_eq_left (by simpa using hmn)]

theorem HpAt.shrink {B Hb Lb g cap : Nat} {w : World} {zs : List Hd} (h : HpAt B Hb Lb g cap w zs) (m : Nat) (hm : m ≤ zs.length) :
    HpAt B Hb Lb g cap (w.setCell ⟨Hb, 1, none⟩ (.slice (some ⟨g, 0, none⟩) m cap)) (zs.take m) := by
  have hLH : Lb ≠ Hb := by rintro rfl; have b := h.blk; rw [h.lss] at b; simp at b
  have hl : (zs.take m).length = m := by rw [List.length_take]; omega
  have hb := h.blk
  refine ⟨?_, blk_setCell h.lss hLH, ?_⟩
  · rw [hl]
    simp only [World.setCell, Array.getElem?_modify, if_true, hb]
    simp
  · rw [hl, ← hc_take]
    exact ownsRow_setCell_other (own_take h.own hm) (by simpa [Value.ownBlock] using h.ne.1.symm) _

def zHd : Hd := ⟨0, 0, 0, 0⟩
/-- the three struct variables of Pop -/
structure Vars (n0 : Nat) (w : World) (k t r n : Int) : Prop where
  v0 : w.heap[n0]? = some (.cells #[.int .i64 0, .int .i64 0, .int .i64 0, .int .i64 0] 384 (0, 0))
  v1 : w.heap[n0 + 1]? = some (.cells #[.int .i64 0, .int .i64 0, .int .i64 0, .int .i64 0] 384 (0, 0))
  v2 : w.heap[n0 + 2]? = some (.cells #[.int .i64 k, .int .i64 t, .int .i64 r, .int .i64 n] 384 (0, 0))

theorem Vars.put {n0 : Nat} {w : World} {k t r n : Int} (h : Vars n0 w k t r n) {b j : Nat} (hb : b < n0) (v : Value) : Vars n0 (w.setCell ⟨b, j, none⟩ v) k t r n :=
  ⟨blk_setCell h.v0 (by omega), blk_setCell h.v1 (by omega), blk_setCell h.v2 (by omega)⟩
theorem Vars.drew {n0 : Nat} {w : World} {k t r n : Int} (h : Vars n0 w k t r n) : Vars n0 w.drew k t r n := ⟨h.v0, h.v1, h.v2⟩
theorem Vars.below {n0 : Nat} {w w' : World} {k t r n : Int} (h : Vars n0 w k t r n) (hb : Below (n0 + 3) w w') : Vars n0 w' k t r n :=
  ⟨by rw [hb.block _ (by omega)]; exact h.v0, by rw [hb.block _ (by omega)]; exact h.v1, by rw [hb.block _ (by omega)]; exact h.v2⟩

/-- what Pop leaves -/
def popL (xs : List Hd) : List Hd :=
  match xs with
  | [] => []
  | x :: t => sinkL (((x :: t).set 0 ((x :: t)[t.length]'(by simp))).take t.length) 0

end Go.Proofs.YtibofakbhgmhiabGreatDoor
