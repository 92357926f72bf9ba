import Derived.Test.YtibofakbhgmhiaaGreatDoorRis
import Derived.Deep.AppendLies
import Derived.Deep.RegionLaw
namespace Go.Proofs.YtibofakbhgmhiaaGreatDoor
open Go.RowKit Rd

/-- the script's own world: its block, and the three lists that it holds -/
structure KInv (Wb : Nat) (w : World) (ps : PS) (N : Nat) (cs : Array Value) (ev pv rv : Value) (ne nr : Nat) (xe xr : List Value) : Prop where
  blk : w.heap[Wb]? = some (.cells cs 51 (0, 0))
  size : cs.size = 71
  e8 : cs[8]? = some ev
  e9 : cs[9]? = some pv
  e10 : cs[10]? = some rv
  oe : w.ownsRow Wb 75 3 ev ne xe
  op : w.ownsRow Wb 32 2 pv ps.length (pc ps)
  or : w.ownsRow Wb 81 1 rv nr xr
  le : ne ≤ N
  lp : ps.length ≤ N
  lr : nr ≤ N

def KHas (Wb : Nat) (w : World) (ps : PS) (N : Nat) : Prop := ∃ cs ev pv rv ne nr xe xr, KInv Wb w ps N cs ev pv rv ne nr xe xr

theorem row_ne' {w : World} {B : Nat} {e : TypeId} {size : Nat} {v : Value} {n : Nat} {xs : List Value} {X : Nat} {c : Array Value} {t : TypeId} {fz : Nat × Nat} (h : w.ownsRow B e size v n xs) (hX : w.heap[X]? = some (.cells c t fz)) (ht : t ≠ e) : v.ownBlock ≠ some X := by
  intro e'
  rcases h.2 with ⟨rfl, _⟩ | ⟨g, cap, cur, rfl, _, hg, _⟩
  · simp [Value.ownBlock] at e'
  · simp [Value.ownBlock] at e'
    subst e'
    rw [hX] at hg
    simp at hg
    exact ht hg.2.1
theorem rows_ne {w : World} {B B' : Nat} {e e' : TypeId} {size size' : Nat} {v v' : Value} {n n' : Nat} {xs xs' : List Value} (h : w.ownsRow B e size v n xs) (h' : w.ownsRow B' e' size' v' n' xs') (ht : e' ≠ e) : v.ownBlock = none ∨ v.ownBlock ≠ v'.ownBlock := by
  rcases h'.2 with ⟨rfl, _⟩ | ⟨g, cap, cur, rfl, _, hg, _⟩
  · cases hv : v.ownBlock with
    | none => exact .inl rfl
    | some k => exact .inr (by simp [Value.ownBlock])
  · exact .inr (row_ne' h hg ht)

theorem KInv.grown {Wb : Nat} {w w' : World} {ps : PS} {N : Nat} {cs : Array Value} {ev pv rv : Value} {ne nr : Nat} {xe xr : List Value} (h : KInv Wb w ps N cs ev pv rv ne nr xe xr) (hb : Below w.heap.size w w') : KInv Wb w' ps N cs ev pv rv ne nr xe xr :=
  ⟨by rw [hb.block _ (Array.getElem?_eq_some_iff.1 h.blk).1]; exact h.blk, h.size, h.e8, h.e9, h.e10, own_below h.oe hb, own_below h.op hb, own_below h.or hb, h.le, h.lp, h.lr⟩
theorem KInv.cell {Wb : Nat} {w : World} {ps : PS} {N : Nat} {cs : Array Value} {ev pv rv : Value} {ne nr : Nat} {xe xr : List Value} (h : KInv Wb w ps N cs ev pv rv ne nr xe xr) (j : Nat) : w.cell? ⟨Wb, j, none⟩ = cs[j]? := by simp [World.cell?, h.blk]
theorem KInv.frozen {Wb : Nat} {w : World} {ps : PS} {N : Nat} {cs : Array Value} {ev pv rv : Value} {ne nr : Nat} {xe xr : List Value} (h : KInv Wb w ps N cs ev pv rv ne nr xe xr) (j : Nat) : w.frozen? ⟨Wb, j, none⟩ = false := by simp [World.frozen?, h.blk]
theorem KInv.lt {Wb : Nat} {w : World} {ps : PS} {N : Nat} {cs : Array Value} {ev pv rv : Value} {ne nr : Nat} {xe xr : List Value} (h : KInv Wb w ps N cs ev pv rv ne nr xe xr) : Wb < w.heap.size := (Array.getElem?_eq_some_iff.1 h.blk).1

abbrev opV (kind A B C : Int) (s t : ByteArray) : Value := .agg #[.int .i64 kind, .int .i64 A, .int .i64 B, .int .i64 C, .string s, .string t]

set_option maxHeartbeats 2000000 in
set_option maxRecDepth 100000 in
theorem step_other (Wb : Nat) (kind A B C : Int) (s t : ByteArray) (w : World) (h1 : (kind == 1) = false) (h2 : (kind == 2) = false) (h3 : (kind == 3) = false) (h4 : (kind == 4) = false) (h5 : (kind == 5) = false) (h6 : (kind == 6) = false) (h7 : (kind == 7) = false) (h8 : (kind == 8) = false) (h9 : (kind == 9) = false) :
    Calls Tryz.prog 23 #[.pointer (some ⟨Wb, 0, none⟩), opV kind A B C s t] w fun e w' => e = .returned (.bool true) ∧ Below w.heap.size w w' := by
  go_enter Tryz.func23, Tryz.ntmps23
  go_wp2
  go_ret
  exact ⟨rfl, (Below.refl _ _).alloc (Nat.le_refl _) _⟩

set_option maxHeartbeats 2000000 in
set_option maxRecDepth 100000 in
theorem step_round (a : Nat → Addr) (Wb : Nat) (A B C : Int) (s t : ByteArray) (w : World) (ps : PS) (N : Nat) (K : KHas Wb w ps N) (S : Sents w a) (hT : Tab w) (hG : 12 < w.heap.size)
    (hE : (enc crcN (bys ps)).length ≤ 1099511627776) (hSh : Short (bys ps)) (hs : s.size ≤ 1099511627776) :
    Calls Tryz.prog 23 #[.pointer (some ⟨Wb, 0, none⟩), opV 6 A B C s t] w fun e w' => e = .returned (.bool true) ∧ Below w.heap.size w w' := by
  obtain ⟨cs, ev, pv, rv, ne, nr, xe, xr, K⟩ := K
  have hb0 : Below w.heap.size w (w.alloc (.cells #[.int .i64 6, .int .i64 A, .int .i64 B, .int .i64 C, .string s, .string t] 53)) := (Below.refl _ _).alloc (Nat.le_refl _) _
  have K1 := K.grown hb0
  have S1 := S.below hb0
  have hT1 := hT.below hb0 hG
  have c9 := (K1.cell 9).trans K1.e9
  have o9 := K1.op
  clear K K1
  go_enter Tryz.func23, Tryz.ntmps23
  go_wp2_with fail
  refine (round a Wb Wb ps pv s _ S1 hT1 (by simp; omega) c9 o9 hE hSh hs).mono ?_
  rintro e w1 ⟨rfl, hb1⟩
  go_wp2
  go_ret
  exact ⟨rfl, hb0.trans (hb1.mono (by simp))⟩
end Go.Proofs.YtibofakbhgmhiaaGreatDoor
