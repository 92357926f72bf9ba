import Derived.Test.YtibofakbhgmhiabGreatDoorSRis
import Derived.Test.YtibofakbhgmhiabGreatDoorYld
import Derived.Deep.AppendLies
import Derived.Deep.RegionLaw
namespace Go.Proofs.YtibofakbhgmhiabGreatDoor
open Go.RowKit

/-- the runs that a script has gathered, each its own row -/
def RowsAt (w : World) (B : Nat) (xr : List Value) (rr : List (List Int)) : Prop := ∀ i (h : i < rr.length), ∃ v, xr[i]? = some v ∧ w.ownsRow B 3 1 v rr[i].length (ic rr[i])

/-- the script's own world: its block, and the three lists that it holds -/
structure KInv (Wb : Nat) (w : World) (rr : List (List Int)) (N : Nat) (cs : Array Value) (ev pv rv : Value) (ne np : Nat) (xe xp xr : List Value) : Prop where
  blk : w.heap[Wb]? = some (.cells cs 43 (0, 0))
  size : cs.size = 71
  e8 : cs[8]? = some ev
  e9 : cs[9]? = some pv
  e10 : cs[10]? = some rv
  oe : w.ownsRow Wb 64 3 ev ne xe
  op : w.ownsRow Wb 56 2 pv np xp
  or : w.ownsRow Wb 66 1 rv rr.length xr
  rows : RowsAt w Wb xr rr
  le : ne ≤ N
  lp : np ≤ N
  lr : rr.length ≤ N

def KHas (Wb : Nat) (w : World) (rr : List (List Int)) (N : Nat) : Prop := ∃ cs ev pv rv ne np xe xp xr, KInv Wb w rr N cs ev pv rv ne np xe xp xr

theorem row_ne' {w : World} {B : Nat} {e : TypeId} {size : Nat} {v : Value} {n : Nat} {xs : List Value} {X : Nat} {c : Array Value} {t : TypeId} {fz : Nat × Nat} (h : w.ownsRow B e size v n xs) (hX : w.heap[X]? = some (.cells c t fz)) (ht : t ≠ e) : v.ownBlock ≠ some X := own_ne h hX (fun e => ht e.symm)
theorem rows_ne {w : World} {B B' : Nat} {e e' : TypeId} {size size' : Nat} {v v' : Value} {n n' : Nat} {xs xs' : List Value} (h : w.ownsRow B e size v n xs) (h' : w.ownsRow B' e' size' v' n' xs') (ht : e' ≠ e) : v.ownBlock = none ∨ v.ownBlock ≠ v'.ownBlock := by
  rcases h'.2 with ⟨rfl, _⟩ | ⟨g, cap, cur, rfl, _, hg, _⟩
  · cases hv : v.ownBlock with
    | none => exact .inl rfl
    | some k => exact .inr (by simp [Value.ownBlock])
  · exact .inr (row_ne' h hg ht)
theorem RowsAt.below {w w' : World} {B : Nat} {xr : List Value} {rr : List (List Int)} (h : RowsAt w B xr rr) (hb : Below w.heap.size w w') : RowsAt w' B xr rr := fun i hi => by
  obtain ⟨v, h1, h2⟩ := h i hi
  exact ⟨v, h1, hown_below h2 hb⟩
theorem RowsAt.grown {w w2 : World} {B : Nat} {xr : List Value} {rr : List (List Int)} (h : RowsAt w B xr rr) {B' : Nat} {e : TypeId} {size : Nat} {v : Value} {n : Nat} {xs : List Value} (ho : w.ownsRow B' e size v n xs) (he : e ≠ 3) (hg : w.grownBy w2 v.ownBlock) : RowsAt w2 B xr rr := fun i hi => by
  obtain ⟨u, h1, h2⟩ := h i hi
  exact ⟨u, h1, h2.kept hg (rows_ne h2 ho he)⟩
theorem RowsAt.put {w : World} {B : Nat} {xr : List Value} {rr : List (List Int)} (h : RowsAt w B xr rr) {X j : Nat} {c : Array Value} {t : TypeId} {fz : Nat × Nat} (hX : w.heap[X]? = some (.cells c t fz)) (ht : t ≠ 3) (v : Value) : RowsAt (w.setCell ⟨X, j, none⟩ v) B xr rr := fun i hi => by
  obtain ⟨u, h1, h2⟩ := h i hi
  exact ⟨u, h1, ownsRow_setCell_other h2 (row_ne' h2 hX ht) _⟩

theorem KInv.grown {Wb : Nat} {w w' : World} {rr : List (List Int)} {N : Nat} {cs : Array Value} {ev pv rv : Value} {ne np : Nat} {xe xp xr : List Value} (h : KInv Wb w rr N cs ev pv rv ne np xe xp xr) (hb : Below w.heap.size w w') : KInv Wb w' rr N cs ev pv rv ne np xe xp xr :=
  ⟨by rw [hb.block _ (Array.getElem?_eq_some_iff.1 h.blk).1]; exact h.blk, h.size, h.e8, h.e9, h.e10, hown_below h.oe hb, hown_below h.op hb, hown_below h.or hb, h.rows.below hb, h.le, h.lp, h.lr⟩
theorem KInv.cell {Wb : Nat} {w : World} {rr : List (List Int)} {N : Nat} {cs : Array Value} {ev pv rv : Value} {ne np : Nat} {xe xp xr : List Value} (h : KInv Wb w rr N cs ev pv rv ne np xe xp xr) (j : Nat) : w.cell? ⟨Wb, j, none⟩ = cs[j]? := by simp [World.cell?, h.blk]
theorem KInv.frozen {Wb : Nat} {w : World} {rr : List (List Int)} {N : Nat} {cs : Array Value} {ev pv rv : Value} {ne np : Nat} {xe xp xr : List Value} (h : KInv Wb w rr N cs ev pv rv ne np xe xp xr) (j : Nat) : w.frozen? ⟨Wb, j, none⟩ = false := by simp [World.frozen?, h.blk]
theorem KInv.lt {Wb : Nat} {w : World} {rr : List (List Int)} {N : Nat} {cs : Array Value} {ev pv rv : Value} {ne np : Nat} {xe xp xr : List Value} (h : KInv Wb w rr N cs ev pv rv ne np xe xp xr) : Wb < w.heap.size := (Array.getElem?_eq_some_iff.1 h.blk).1

abbrev opV (kind A B C : Int) (s t : ByteArray) : Value := .agg #[.int .i64 kind, .int .i64 A, .int .i64 B, .int .i64 C, .string s, .string t]

set_option maxHeartbeats 2000000 in
set_option maxRecDepth 100000 in
theorem step_other (Wb : Nat) (kind A B C : Int) (s t : ByteArray) (w : World) (h1 : (kind == 1) = false) (h2 : (kind == 2) = false) (h3 : (kind == 3) = false) (h4 : (kind == 4) = false) (h5 : (kind == 5) = false) (h6 : (kind == 6) = false) (h7 : (kind == 7) = false) (h8 : (kind == 8) = false) (h9 : (kind == 9) = false) :
    Calls Tryz.prog 11 #[.pointer (some ⟨Wb, 0, none⟩), opV kind A B C s t] w fun e w' => e = .returned (.bool true) ∧ Below w.heap.size w w' := by
  go_enter Tryz.func11, Tryz.ntmps11
  go_wp2
  go_ret
  exact ⟨rfl, (Below.refl _ _).alloc (Nat.le_refl _) _⟩

theorem put_block {w : World} {Wb j : Nat} {cs : Array Value} {e : TypeId} {v : Value} (h : w.heap[Wb]? = some (.cells cs e (0, 0))) : (w.setCell ⟨Wb, j, none⟩ v).heap[Wb]? = some (.cells (cs.setIfInBounds j v) e (0, 0)) := by
  simp only [World.setCell, Array.getElem?_modify, if_true, h]
  simp
theorem KInv.grownBlk {Wb : Nat} {w w2 : World} {rr : List (List Int)} {N : Nat} {cs : Array Value} {ev pv rv : Value} {ne np : Nat} {xe xp xr : List Value} (K : KInv Wb w rr N cs ev pv rv ne np xe xp xr) {e : TypeId} {size : Nat} {v : Value} {n : Nat} {xs : List Value} (ho : w.ownsRow Wb e size v n xs) (he : 43 ≠ e) (hg : w.grownBy w2 v.ownBlock) : w2.heap[Wb]? = some (.cells cs 43 (0, 0)) := by
  rw [hg.block Wb K.lt (fun e' => row_ne' ho K.blk he e'.symm)]; exact K.blk
theorem below_row {Wb : Nat} {w w2 : World} {e : TypeId} {size : Nat} {v : Value} {n : Nat} {xs : List Value} (ho : w.ownsRow Wb e size v n xs) (hB : Wb ≤ w.heap.size) (hg : w.grownBy w2 v.ownBlock) : Below Wb w w2 :=
  (Below.refl _ _).grown hg hB (fun k hk => (ho.lt k hk).1)
theorem set_other {cs : Array Value} {i j : Nat} {v : Value} (h : i ≠ j) : (cs.setIfInBounds i v)[j]? = cs[j]? := by simp [h]
theorem set_same {cs : Array Value} {i : Nat} {v : Value} (h : i < cs.size) : (cs.setIfInBounds i v)[i]? = some v := by simp [h]

theorem KInv.put8 {Wb : Nat} {w w2 : World} {rr : List (List Int)} {N : Nat} {cs : Array Value} {ev pv rv : Value} {ne np : Nat} {xe xp xr : List Value} (K : KInv Wb w rr N cs ev pv rv ne np xe xp xr) {v : Value} {n : Nat} {xs : List Value} (ho : w2.ownsRow Wb 64 3 v n xs) (hg : w.grownBy w2 ev.ownBlock) (hn : n ≤ N + 1) : KHas Wb (w2.setCell ⟨Wb, 8, none⟩ v) rr (N + 1) ∧ Below Wb w (w2.setCell ⟨Wb, 8, none⟩ v) := by
  have hblk := K.grownBlk K.oe (by decide) hg
  have o2 := K.op.kept hg (rows_ne K.op K.oe (by decide))
  have o3 := K.or.kept hg (rows_ne K.or K.oe (by decide))
  have o4 := (K.rows.grown K.oe (by decide) hg).put (j := 8) hblk (by decide) v
  have s := K.size
  refine ⟨⟨cs.setIfInBounds 8 v, v, pv, rv, n, np, xs, xp, xr, put_block hblk, by simpa using s, set_same (by omega), (set_other (by decide)).trans K.e9, (set_other (by decide)).trans K.e10, ownsRow_setCell_other ho (row_ne' ho hblk (by decide)) _, ownsRow_setCell_other o2 (row_ne' o2 hblk (by decide)) _, ownsRow_setCell_other o3 (row_ne' o3 hblk (by decide)) _, o4, hn, ?_, ?_⟩, ?_⟩
  · have := K.lp; omega
  · have := K.lr; omega
  · exact (below_row K.oe (Nat.le_of_lt K.lt) hg).setCell (Nat.le_refl _) _
theorem KInv.put9 {Wb : Nat} {w w2 : World} {rr : List (List Int)} {N : Nat} {cs : Array Value} {ev pv rv : Value} {ne np : Nat} {xe xp xr : List Value} (K : KInv Wb w rr N cs ev pv rv ne np xe xp xr) {v : Value} {n : Nat} {xs : List Value} (ho : w2.ownsRow Wb 56 2 v n xs) (hg : w.grownBy w2 pv.ownBlock) (hn : n ≤ N + 1) : KHas Wb (w2.setCell ⟨Wb, 9, none⟩ v) rr (N + 1) ∧ Below Wb w (w2.setCell ⟨Wb, 9, none⟩ v) := by
  have hblk := K.grownBlk K.op (by decide) hg
  have o2 := K.oe.kept hg (rows_ne K.oe K.op (by decide))
  have o3 := K.or.kept hg (rows_ne K.or K.op (by decide))
  have o4 := (K.rows.grown K.op (by decide) hg).put (j := 9) hblk (by decide) v
  have s := K.size
  refine ⟨⟨cs.setIfInBounds 9 v, ev, v, rv, ne, n, xe, xs, xr, put_block hblk, by simpa using s, (set_other (by decide)).trans K.e8, set_same (by omega), (set_other (by decide)).trans K.e10, ownsRow_setCell_other o2 (row_ne' o2 hblk (by decide)) _, ownsRow_setCell_other ho (row_ne' ho hblk (by decide)) _, ownsRow_setCell_other o3 (row_ne' o3 hblk (by decide)) _, o4, ?_, hn, ?_⟩, ?_⟩
  · have := K.le; omega
  · have := K.lr; omega
  · exact (below_row K.op (Nat.le_of_lt K.lt) hg).setCell (Nat.le_refl _) _
/-- a run more: u, whose row is its own -/
theorem KInv.put10 {Wb : Nat} {w w2 : World} {rr : List (List Int)} {N : Nat} {cs : Array Value} {ev pv rv : Value} {ne np : Nat} {xe xp xr : List Value} (K : KInv Wb w rr N cs ev pv rv ne np xe xp xr) {v u : Value} {l : List Int} (hu : w.ownsRow Wb 3 1 u l.length (ic l)) (ho : w2.ownsRow Wb 66 1 v (rr.length + 1) (xr ++ [u])) (hg : w.grownBy w2 rv.ownBlock) : KHas Wb (w2.setCell ⟨Wb, 10, none⟩ v) (rr ++ [l]) (N + 1) ∧ Below Wb w (w2.setCell ⟨Wb, 10, none⟩ v) := by
  have hblk := K.grownBlk K.or (by decide) hg
  have o2 := K.oe.kept hg (rows_ne K.oe K.or (by decide))
  have o3 := K.op.kept hg (rows_ne K.op K.or (by decide))
  have hxl : xr.length = rr.length := by have := K.or.1; omega
  have hR : RowsAt w Wb (xr ++ [u]) (rr ++ [l]) := by
    intro i hi
    by_cases e : i < rr.length
    · obtain ⟨x, h1, h2⟩ := K.rows i e
      rw [List.getElem_append_left e]
      exact ⟨x, by rw [List.getElem?_append_left (by omega)]; exact h1, h2⟩
    · have : i = rr.length := by simp at hi; omega
      subst this
      rw [List.getElem_append_right (by omega)]
      exact ⟨u, by rw [← hxl]; simp, by simpa using hu⟩
  have o4 := (hR.grown K.or (by decide) hg).put (j := 10) hblk (by decide) v
  have s := K.size
  refine ⟨⟨cs.setIfInBounds 10 v, ev, pv, v, ne, np, xe, xp, xr ++ [u], put_block hblk, by simpa using s, (set_other (by decide)).trans K.e8, (set_other (by decide)).trans K.e9, set_same (by omega), ownsRow_setCell_other o2 (row_ne' o2 hblk (by decide)) _, ownsRow_setCell_other o3 (row_ne' o3 hblk (by decide)) _, ownsRow_setCell_other (by simpa using ho) (row_ne' ho hblk (by decide)) _, o4, ?_, ?_, ?_⟩, ?_⟩
  · have := K.le; omega
  · have := K.lp; omega
  · have := K.lr; simp; omega
  · exact (below_row K.or (Nat.le_of_lt K.lt) hg).setCell (Nat.le_refl _) _
theorem KInv.putNum {Wb : Nat} {w : World} {rr : List (List Int)} {N : Nat} {cs : Array Value} {ev pv rv : Value} {ne np : Nat} {xe xp xr : List Value} (K : KInv Wb w rr N cs ev pv rv ne np xe xp xr) (j : Nat) (hj : j < 8) (v : Value) : KHas Wb (w.setCell ⟨Wb, j, none⟩ v) rr N ∧ Below Wb w (w.setCell ⟨Wb, j, none⟩ v) := by
  have s := K.size
  refine ⟨⟨cs.setIfInBounds j v, ev, pv, rv, ne, np, xe, xp, xr, put_block K.blk, by simpa using s, (set_other (by omega)).trans K.e8, (set_other (by omega)).trans K.e9, (set_other (by omega)).trans K.e10, ownsRow_setCell_other K.oe (row_ne' K.oe K.blk (by decide)) _, ownsRow_setCell_other K.op (row_ne' K.op K.blk (by decide)) _, ownsRow_setCell_other K.or (row_ne' K.or K.blk (by decide)) _, K.rows.put (j := j) K.blk (by decide) v, K.le, K.lp, K.lr⟩, ?_⟩
  exact (Below.refl Wb w).setCell (p := ⟨Wb, j, none⟩) (Nat.le_refl _) _
end Go.Proofs.YtibofakbhgmhiabGreatDoor
