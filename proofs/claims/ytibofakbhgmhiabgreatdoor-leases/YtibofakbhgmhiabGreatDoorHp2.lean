import Derived.Test.YtibofakbhgmhiabGreatDoorHp1
import Derived.BigRegion
import Derived.Laws.OwnMore
namespace Go.Proofs.YtibofakbhgmhiabGreatDoor
open Go.RowKit

/-- a head: the thing's key, its tag, its run, where the run goes on -/
structure Hd where
  K : Int
  T : Int
  r : Int
  n : Int
deriving Inhabited

def hc : List Hd → List Value
  | [] => []
  | h :: t => .int .i64 h.K :: .int .i64 h.T :: .int .i64 h.r :: .int .i64 h.n :: hc t
theorem hc_length : ∀ l, (hc l).length = l.length * 4
  | [] => rfl
  | h :: t => by simp [hc, hc_length t]; omega
theorem hc_append : ∀ a b, hc (a ++ b) = hc a ++ hc b
  | [], b => rfl
  | h :: t, b => by simp [hc, hc_append t b]
theorem hc_at : ∀ (l : List Hd) (j : Nat) (h : j < l.length), (hc l)[j * 4]? = some (.int .i64 l[j].K) ∧ (hc l)[j * 4 + 1]? = some (.int .i64 l[j].T) ∧ (hc l)[j * 4 + 2]? = some (.int .i64 l[j].r) ∧ (hc l)[j * 4 + 3]? = some (.int .i64 l[j].n)
  | [], j, h => absurd h (Nat.not_lt_zero _)
  | p :: ps, 0, _ => ⟨rfl, rfl, rfl, rfl⟩
  | p :: ps, j + 1, h => by
    have := hc_at ps j (by simpa using h)
    rw [show (j + 1) * 4 = j * 4 + 4 from by omega]
    exact ⟨by simpa [hc] using this.1, by simpa [hc] using this.2.1, by simpa [hc] using this.2.2.1, by simpa [hc] using this.2.2.2⟩
theorem hc_set : ∀ (l : List Hd) (j : Nat) (x : Hd), ((((hc l).set (j * 4) (.int .i64 x.K)).set (j * 4 + 1) (.int .i64 x.T)).set (j * 4 + 2) (.int .i64 x.r)).set (j * 4 + 3) (.int .i64 x.n) = hc (l.set j x)
  | [], j, x => by simp [hc]
  | p :: ps, 0, x => by simp [hc]
  | p :: ps, j + 1, x => by
    have := hc_set ps j x
    rw [show (j + 1) * 4 = j * 4 + 4 from by omega]
    simpa [hc] using this

/-- the heap at block Hb: its order, its things -/
structure HpAt (B Hb Lb g cap : Nat) (w : World) (xs : List Hd) : Prop where
  blk : w.heap[Hb]? = some (.cells #[.func (.func 282) #[] #[.pointer (some ⟨Lb, 0, none⟩)], .slice (some ⟨g, 0, none⟩) xs.length cap] 425 (0, 0))
  lss : w.heap[Lb]? = some (.cells #[.func (.func 76) #[] #[]] 175 (0, 0))
  own : w.ownsRow B 384 4 (.slice (some ⟨g, 0, none⟩) xs.length cap) xs.length (hc xs)

theorem HpAt.cells {B Hb Lb g cap : Nat} {w : World} {xs : List Hd} (h : HpAt B Hb Lb g cap w xs) (j : Nat) (hj : j < xs.length) :
    w.cell? ⟨g, j * 4, none⟩ = some (.int .i64 xs[j].K) ∧ w.cell? ⟨g, j * 4 + 1, none⟩ = some (.int .i64 xs[j].T) ∧ w.cell? ⟨g, j * 4 + 2, none⟩ = some (.int .i64 xs[j].r) ∧ w.cell? ⟨g, j * 4 + 3, none⟩ = some (.int .i64 xs[j].n) := by
  have a := hc_at xs j hj
  exact ⟨(h.own.cellAt _ (by omega)).trans a.1, (h.own.cellAt _ (by omega)).trans a.2.1, (h.own.cellAt _ (by omega)).trans a.2.2.1, (h.own.cellAt _ (by omega)).trans a.2.2.2⟩
theorem HpAt.hcell {B Hb Lb g cap : Nat} {w : World} {xs : List Hd} (h : HpAt B Hb Lb g cap w xs) :
    w.cell? ⟨Hb, 0, none⟩ = some (.func (.func 282) #[] #[.pointer (some ⟨Lb, 0, none⟩)]) ∧ w.cell? ⟨Hb, 1, none⟩ = some (.slice (some ⟨g, 0, none⟩) xs.length cap) ∧ w.cell? ⟨Lb, 0, none⟩ = some (.func (.func 76) #[] #[]) := by
  simp [World.cell?, h.blk, h.lss]
theorem HpAt.ne {B Hb Lb g cap : Nat} {w : World} {xs : List Hd} (h : HpAt B Hb Lb g cap w xs) : Hb ≠ g ∧ Lb ≠ g := by
  rcases h.own.2 with ⟨hn, _⟩ | ⟨g', cap', cur, hv, hb, hg, _⟩
  · cases hn
  · simp only [Value.slice.injEq, Option.some.injEq, Addr.mk.injEq] at hv
    obtain ⟨⟨rfl, _, _⟩, _, rfl⟩ := hv
    have b := h.blk
    have l := h.lss
    constructor
    · rintro rfl; rw [hg] at b; simp at b
    · rintro rfl; rw [hg] at l; simp at l
theorem blk_setCell {w : World} {b g j : Nat} {o : Obj} {v : Value} (h : w.heap[b]? = some o) (hne : b ≠ g) : (w.setCell ⟨g, j, none⟩ v).heap[b]? = some o := by
  simp only [World.setCell, Array.getElem?_modify]
  rw [if_neg (fun e => hne e.symm)]; exact h
/-- an element of the row is written whole -/
theorem HpAt.put {B Hb Lb g cap : Nat} {w : World} {xs : List Hd} (h : HpAt B Hb Lb g cap w xs) (j : Nat) (x : Hd) :
    HpAt B Hb Lb g cap ((((w.setCell ⟨g, j * 4, none⟩ (.int .i64 x.K)).setCell ⟨g, j * 4 + 1, none⟩ (.int .i64 x.T)).setCell ⟨g, j * 4 + 2, none⟩ (.int .i64 x.r)).setCell ⟨g, j * 4 + 3, none⟩ (.int .i64 x.n)) (xs.set j x) := by
  have hn := h.ne
  refine ⟨?_, ?_, ?_⟩
  · rw [List.length_set]; exact blk_setCell (blk_setCell (blk_setCell (blk_setCell h.blk hn.1) hn.1) hn.1) hn.1
  · exact blk_setCell (blk_setCell (blk_setCell (blk_setCell h.lss hn.2) hn.2) hn.2) hn.2
  · rw [List.length_set, ← hc_set]
    exact ((((h.own.stored _ _).1.stored _ _).1.stored _ _).1.stored _ _).1
theorem hown_below {w w' : World} {B : Nat} {e : TypeId} {size : Nat} {v : Value} {n : Nat} {xs : List Value} (h : w.ownsRow B e size v n xs) (hb : Below w.heap.size w w') : w'.ownsRow B e size v n xs := by
  obtain ⟨h1, h2⟩ := h
  refine ⟨h1, ?_⟩
  rcases h2 with h2 | ⟨g, cap, cur, hv, hg, hh, r⟩
  · exact Or.inl h2
  · exact Or.inr ⟨g, cap, cur, hv, hg, by rw [hb.block _ (lt_of_block hh)]; exact hh, r⟩
theorem HpAt.below {B Hb Lb g cap : Nat} {w w' : World} {xs : List Hd} (h : HpAt B Hb Lb g cap w xs) (hb : Below w.heap.size w w') : HpAt B Hb Lb g cap w' xs :=
  ⟨by rw [hb.block _ (lt_of_block h.blk)]; exact h.blk, by rw [hb.block _ (lt_of_block h.lss)]; exact h.lss, hown_below h.own hb⟩
theorem HpAt.gB {B Hb Lb g cap : Nat} {w : World} {xs : List Hd} (h : HpAt B Hb Lb g cap w xs) : B ≤ g ∧ g < w.heap.size := h.own.lt g rfl
theorem HpAt.drew {B Hb Lb g cap : Nat} {w : World} {xs : List Hd} (h : HpAt B Hb Lb g cap w xs) : HpAt B Hb Lb g cap w.drew xs := ⟨h.blk, h.lss, h.own⟩
theorem HpAt.drewN {B Hb Lb g cap : Nat} {w : World} {xs : List Hd} (h : HpAt B Hb Lb g cap w xs) (q : Nat) : HpAt B Hb Lb g cap (w.drewN q) xs := ⟨h.blk, h.lss, h.own⟩

/-- every block that was there, but those that P names, is as it was -/
structure Kp (P : Nat → Prop) (w w' : World) : Prop where
  os : w'.os = w.os
  tape : w'.tape = w.tape
  output : w'.output = w.output
  size : w.heap.size ≤ w'.heap.size
  block : ∀ k, k < w.heap.size → ¬ P k → w'.heap[k]? = w.heap[k]?
theorem Kp.refl (P : Nat → Prop) (w : World) : Kp P w w := ⟨rfl, rfl, rfl, Nat.le_refl _, fun _ _ _ => rfl⟩
theorem Kp.trans {P Q : Nat → Prop} {a b c : World} (h : Kp P a b) (k : Kp Q b c) (hq : ∀ i, i < a.heap.size → Q i → P i) : Kp P a c :=
  ⟨k.os.trans h.os, k.tape.trans h.tape, k.output.trans h.output, Nat.le_trans h.size k.size, fun i hi hp => (k.block i (Nat.lt_of_lt_of_le hi h.size) (fun q => hp (hq i hi q))).trans (h.block i hi hp)⟩
theorem Kp.of_below {P : Nat → Prop} {w w' : World} (h : Below w.heap.size w w') : Kp P w w' := ⟨h.os, h.tape, h.output, h.size, fun k hk _ => h.block k hk⟩
theorem Kp.weaken {P Q : Nat → Prop} {w w' : World} (h : Kp P w w') (hq : ∀ i, i < w.heap.size → P i → Q i) : Kp Q w w' := ⟨h.os, h.tape, h.output, h.size, fun k hk hn => h.block k hk (fun p => hn (hq k hk p))⟩
theorem Kp.drew {P : Nat → Prop} {a w : World} (h : Kp P a w) : Kp P a w.drew := ⟨h.os, h.tape, h.output, h.size, h.block⟩
theorem Kp.drewN {P : Nat → Prop} {a w : World} (h : Kp P a w) (q : Nat) : Kp P a (w.drewN q) := ⟨h.os, h.tape, h.output, h.size, h.block⟩
theorem Kp.setCell {P : Nat → Prop} {a w : World} (h : Kp P a w) {b j : Nat} (hb : b < a.heap.size → P b) (v : Value) : Kp P a (w.setCell ⟨b, j, none⟩ v) :=
  h.trans (Q := fun i => i = b) ⟨rfl, rfl, rfl, by simp [World.setCell], fun k _ hn => Below.heap_setCell _ _ _ _ hn⟩ (fun i hi e => by subst e; exact hb hi)
theorem Kp.alloc {P : Nat → Prop} {a w : World} (h : Kp P a w) (o : Obj) : Kp P a (w.alloc o) :=
  h.trans (Q := P) (Kp.of_below ((Below.refl _ _).alloc (Nat.le_refl _) o)) (fun _ _ e => e)
theorem Kp.below {P : Nat → Prop} {w w' : World} (h : Kp P w w') {B : Nat} (hB : B ≤ w.heap.size) (hp : ∀ k, k < B → ¬ P k) : Below B w w' :=
  ⟨h.os, h.tape, h.output, h.size, fun k hk => h.block k (Nat.lt_of_lt_of_le hk hB) (hp k hk)⟩
theorem Kp.of_grown {P : Nat → Prop} {w w' : World} {row : Option Nat} (h : w.grownBy w' row) (hp : ∀ k, row = some k → P k) : Kp P w w' :=
  ⟨h.os, h.tape, h.output, h.size, fun k hk hn => h.block k hk (fun e => hn (hp k e.symm))⟩

set_option maxHeartbeats 2000000 in
set_option maxRecDepth 100000 in
theorem hswap {B Hb Lb g cap : Nat} {w : World} {xs : List Hd} (h : HpAt B Hb Lb g cap w xs) (a b : Nat) (ha : a < xs.length) (hb : b < xs.length) (hab : a ≠ b) :
    Calls Tryz.prog 328 #[.pointer (some ⟨Hb, 0, none⟩), .int .i64 a, .int .i64 b] w fun e w' => e = .returned (.tuple #[]) ∧ HpAt B Hb Lb g cap w' ((xs.set a xs[b]).set b xs[a]) ∧ Kp (· = g) w w' := by
  have HP := (h.put a xs[b]).put b xs[a]
  obtain ⟨c0, c1, c2⟩ := h.hcell
  obtain ⟨a0, a1, a2, a3⟩ := h.cells a ha
  obtain ⟨b0, b1, b2, b3⟩ := h.cells b hb
  have fz := fun j => h.own.frozenAt j
  clear h
  generalize xs[a] = xa at *
  generalize xs[b] = xb at *
  obtain ⟨ka, ta, ra, na⟩ := xa
  obtain ⟨kb, tb, rb, nb⟩ := xb
  simp only at a0 a1 a2 a3 b0 b1 b2 b3
  have HQ : Hid (HpAt B Hb Lb g cap _ _) := HP
  clear HP
  generalize xs.length = n at *
  go_enter Tryz.func328, Tryz.ntmps328
  go_wp2_with fail
  go_region
  go_end0
  refine ⟨rfl, HQ.out.drew, ?_⟩
  exact ((((((((Kp.refl (· = g) w).setCell (fun _ => rfl) _).setCell (fun _ => rfl) _).setCell (fun _ => rfl) _).setCell (fun _ => rfl) _).setCell (fun _ => rfl) _).setCell (fun _ => rfl) _).setCell (fun _ => rfl) _).setCell (fun _ => rfl) _ |>.drew
end Go.Proofs.YtibofakbhgmhiabGreatDoor
