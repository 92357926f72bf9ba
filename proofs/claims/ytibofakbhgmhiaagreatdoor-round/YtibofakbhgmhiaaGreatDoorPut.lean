import Derived.Test.YtibofakbhgmhiaaGreatDoorStp
namespace Go.Proofs.YtibofakbhgmhiaaGreatDoor
open Go.RowKit Rd

theorem put_block {w : World} {Wb j : Nat} {cs : Array Value} {e : TypeId} {v : Value} (h : w.heap[Wb]? = some (.cells cs e (0, 0))) : (w.setCell ⟨Wb, j, none⟩ v).heap[Wb]? = some (.cells (cs.setIfInBounds j v) e (0, 0)) := by
  simp only [World.setCell, Array.getElem?_modify, if_true, h]
  simp

theorem KInv.grownBlk {Wb : Nat} {w w2 : World} {ps : PS} {N : Nat} {cs : Array Value} {ev pv rv : Value} {ne nr : Nat} {xe xr : List Value} (K : KInv Wb w ps N cs ev pv rv ne nr xe xr) {e : TypeId} {size : Nat} {v : Value} {n : Nat} {xs : List Value} (ho : w.ownsRow Wb e size v n xs) (he : 51 ≠ e) (hg : w.grownBy w2 v.ownBlock) : w2.heap[Wb]? = some (.cells cs 51 (0, 0)) := by
  rw [hg.block Wb K.lt (fun e' => row_ne' ho K.blk he e'.symm)]; exact K.blk
theorem below_row {Wb : Nat} {w w2 : World} {e : TypeId} {size : Nat} {v : Value} {n : Nat} {xs : List Value} (ho : w.ownsRow Wb e size v n xs) (hB : Wb ≤ w.heap.size) (hg : w.grownBy w2 v.ownBlock) : Below Wb w w2 :=
  (Below.refl _ _).grown hg hB (fun k hk => (ho.lt k hk).1)
theorem set_other {cs : Array Value} {i j : Nat} {v : Value} (h : i ≠ j) : (cs.setIfInBounds i v)[j]? = cs[j]? := by simp [h]
theorem set_same {cs : Array Value} {i : Nat} {v : Value} (h : i < cs.size) : (cs.setIfInBounds i v)[i]? = some v := by simp [h]

theorem KInv.put8 {Wb : Nat} {w w2 : World} {ps : PS} {N : Nat} {cs : Array Value} {ev pv rv : Value} {ne nr : Nat} {xe xr : List Value} (K : KInv Wb w ps N cs ev pv rv ne nr xe xr) {v : Value} {n : Nat} {xs : List Value} (ho : w2.ownsRow Wb 75 3 v n xs) (hg : w.grownBy w2 ev.ownBlock) (hn : n ≤ N + 1) : KHas Wb (w2.setCell ⟨Wb, 8, none⟩ v) ps (N + 1) ∧ Below Wb w (w2.setCell ⟨Wb, 8, none⟩ v) := by
  have hblk := K.grownBlk K.oe (by decide) hg
  have o2 := K.op.kept hg (rows_ne K.op K.oe (by decide))
  have o3 := K.or.kept hg (rows_ne K.or K.oe (by decide))
  have s := K.size
  refine ⟨⟨cs.setIfInBounds 8 v, v, pv, rv, n, nr, xs, xr, put_block hblk, by simpa using s, set_same (by omega), (set_other (by decide)).trans K.e9, (set_other (by decide)).trans K.e10, ownsRow_setCell_other ho (row_ne' ho hblk (by decide)) _, ownsRow_setCell_other o2 (row_ne' o2 hblk (by decide)) _, ownsRow_setCell_other o3 (row_ne' o3 hblk (by decide)) _, hn, ?_, ?_⟩, ?_⟩
  · have := K.lp; omega
  · have := K.lr; omega
  · exact (below_row K.oe (Nat.le_of_lt K.lt) hg).setCell (Nat.le_refl _) _
theorem KInv.put9 {Wb : Nat} {w w2 : World} {ps : PS} {N : Nat} {cs : Array Value} {ev pv rv : Value} {ne nr : Nat} {xe xr : List Value} (K : KInv Wb w ps N cs ev pv rv ne nr xe xr) {v : Value} {ps' : PS} (ho : w2.ownsRow Wb 32 2 v ps'.length (pc ps')) (hg : w.grownBy w2 pv.ownBlock) (hn : ps'.length ≤ N + 1) : KHas Wb (w2.setCell ⟨Wb, 9, none⟩ v) ps' (N + 1) ∧ Below Wb w (w2.setCell ⟨Wb, 9, none⟩ v) := by
  have hblk := K.grownBlk K.op (by decide) hg
  have o2 := K.oe.kept hg (rows_ne K.oe K.op (by decide))
  have o3 := K.or.kept hg (rows_ne K.or K.op (by decide))
  have s := K.size
  refine ⟨⟨cs.setIfInBounds 9 v, ev, v, rv, ne, nr, xe, xr, put_block hblk, by simpa using s, (set_other (by decide)).trans K.e8, set_same (by omega), (set_other (by decide)).trans K.e10, ownsRow_setCell_other o2 (row_ne' o2 hblk (by decide)) _, ownsRow_setCell_other ho (row_ne' ho hblk (by decide)) _, ownsRow_setCell_other o3 (row_ne' o3 hblk (by decide)) _, ?_, hn, ?_⟩, ?_⟩
  · have := K.le; omega
  · have := K.lr; omega
  · exact (below_row K.op (Nat.le_of_lt K.lt) hg).setCell (Nat.le_refl _) _
theorem KInv.put10 {Wb : Nat} {w w2 : World} {ps : PS} {N : Nat} {cs : Array Value} {ev pv rv : Value} {ne nr : Nat} {xe xr : List Value} (K : KInv Wb w ps N cs ev pv rv ne nr xe xr) {v : Value} {n : Nat} {xs : List Value} (ho : w2.ownsRow Wb 81 1 v n xs) (hg : w.grownBy w2 rv.ownBlock) (hn : n ≤ N + 1) : KHas Wb (w2.setCell ⟨Wb, 10, none⟩ v) ps (N + 1) ∧ Below Wb w (w2.setCell ⟨Wb, 10, none⟩ v) := by
  have hblk := K.grownBlk K.or (by decide) hg
  have o2 := K.oe.kept hg (rows_ne K.oe K.or (by decide))
  have o3 := K.op.kept hg (rows_ne K.op K.or (by decide))
  have s := K.size
  refine ⟨⟨cs.setIfInBounds 10 v, ev, pv, v, ne, n, xe, xs, put_block hblk, by simpa using s, (set_other (by decide)).trans K.e8, (set_other (by decide)).trans K.e9, set_same (by omega), ownsRow_setCell_other o2 (row_ne' o2 hblk (by decide)) _, ownsRow_setCell_other o3 (row_ne' o3 hblk (by decide)) _, ownsRow_setCell_other ho (row_ne' ho hblk (by decide)) _, ?_, ?_, hn⟩, ?_⟩
  · have := K.le; omega
  · have := K.lp; omega
  · exact (below_row K.or (Nat.le_of_lt K.lt) hg).setCell (Nat.le_refl _) _
theorem KInv.putNum {Wb : Nat} {w : World} {ps : PS} {N : Nat} {cs : Array Value} {ev pv rv : Value} {ne nr : Nat} {xe xr : List Value} (K : KInv Wb w ps N cs ev pv rv ne nr xe xr) (j : Nat) (hj : j < 8) (v : Value) : KHas Wb (w.setCell ⟨Wb, j, none⟩ v) ps N ∧ Below Wb w (w.setCell ⟨Wb, j, none⟩ v) := by
  have s := K.size
  refine ⟨⟨cs.setIfInBounds j v, ev, pv, rv, ne, nr, xe, xr, put_block K.blk, by simpa using s, (set_other (by omega)).trans K.e8, (set_other (by omega)).trans K.e9, (set_other (by omega)).trans K.e10, ownsRow_setCell_other K.oe (row_ne' K.oe K.blk (by decide)) _, ownsRow_setCell_other K.op (row_ne' K.op K.blk (by decide)) _, ownsRow_setCell_other K.or (row_ne' K.or K.blk (by decide)) _, K.le, K.lp, K.lr⟩, ?_⟩
  exact (Below.refl Wb w).setCell (p := ⟨Wb, j, none⟩) (Nat.le_refl _) _
end Go.Proofs.YtibofakbhgmhiaaGreatDoor
