import Derived.Test.YtibofakbhgmhiabGreatDoorTl1
import Derived.Test.YtibofakbhgmhiabGreatDoorPur
namespace Go.Proofs.YtibofakbhgmhiabGreatDoor
open Go.RowKit

/-- between two heads of the loop: the first thing's block, the heap, the yield's -/
structure Mid (w0 : World) (B Hb Lb Nb Lv Mb : Nat) (n : Int) (Fb : Nat) (x : Hd) (xs : List Hd) (got : Rn) (wr : World) : Prop where
  ex : ∃ tv lv, wr.heap[Fb]? = some (.cells #[.int .i64 x.K, .int .i64 x.T, .int .i64 x.r, .int .i64 x.n] 384 (0, 0)) ∧ tv.ownBlock ≠ some Fb ∧ w0.heap.size ≤ Fb ∧ HpV Hb Hb Lb tv wr xs ∧ YAt B Nb Lv Mb n lv wr got ∧ (∀ i, lv.ownBlock = some i → w0.heap.size ≤ i) ∧ Kp (· = Lv) w0 wr

/-- at the loop's head -/
structure TInv (w0 : World) (B Hb Lb Nb Lv Mb : Nat) (n : Int) (rs : List Rn) (Fb : Nat) (ok : Bool) (tr : List Nat) (got : Rn) (wr : World) : Prop where
  ex : ∃ x xs, Mid w0 B Hb Lb Nb Lv Mb n Fb x xs got wr ∧ Popped rs tr got ok x xs ∧ Tr rs tr got ∧ (n < 1 ∨ (got.length : Int) < n)

theorem Mid.cells {w0 : World} {B Hb Lb Nb Lv Mb : Nat} {n : Int} {Fb : Nat} {x : Hd} {xs : List Hd} {got : Rn} {wr : World} (h : Mid w0 B Hb Lb Nb Lv Mb n Fb x xs got wr) :
    wr.cell? ⟨Fb, 0, none⟩ = some (.int .i64 x.K) ∧ wr.cell? ⟨Fb, 1, none⟩ = some (.int .i64 x.T) ∧ wr.cell? ⟨Fb, 2, none⟩ = some (.int .i64 x.r) ∧ wr.cell? ⟨Fb, 3, none⟩ = some (.int .i64 x.n) := by
  obtain ⟨tv, lv, hF, _⟩ := h
  simp [World.cell?, hF]
theorem Mid.drew {w0 : World} {B Hb Lb Nb Lv Mb : Nat} {n : Int} {Fb : Nat} {x : Hd} {xs : List Hd} {got : Rn} {wr : World} (h : Mid w0 B Hb Lb Nb Lv Mb n Fb x xs got wr) : Mid w0 B Hb Lb Nb Lv Mb n Fb x xs got wr.drew := by
  obtain ⟨tv, lv, h1, h2, h3, h4, h5, h6, h7⟩ := h
  exact ⟨tv, lv, h1, h2, h3, h4.below (Below.refl _ _).drew, h5.below (Below.refl _ _).drew, h6, h7.drew⟩
theorem Mid.kp {w0 : World} {B Hb Lb Nb Lv Mb : Nat} {n : Int} {Fb : Nat} {x : Hd} {xs : List Hd} {got : Rn} {wr : World} (h : Mid w0 B Hb Lb Nb Lv Mb n Fb x xs got wr) : Kp (· = Lv) w0 wr := by
  obtain ⟨tv, lv, h1, h2, h3, h4, h5, h6, h7⟩ := h
  exact h7

/-- the yield takes the first thing -/
theorem mid_yield {w0 : World} {B Hb Lb Nb Lv Mb : Nat} {n : Int} {Fb : Nat} {x : Hd} {xs : List Hd} {got : Rn} {wr : World} (h : Mid w0 B Hb Lb Nb Lv Mb n Fb x xs got wr) (hB : B ≤ w0.heap.size) (hn : n < 1 ∨ (got.length : Int) < n) (hl : got.length ≤ 1048576) :
    Calls Tryz.prog 77 #[.agg #[.int .i64 x.K, .int .i64 x.T], .pointer (some ⟨Nb, 0, none⟩), .pointer (some ⟨Lv, 0, none⟩), .pointer (some ⟨Mb, 0, none⟩)] wr fun e w1 =>
      e = .returned (.bool (decide (n < 1 ∨ ((got.length : Int) + 1) < n))) ∧ Mid w0 B Hb Lb Nb Lv Mb n Fb x xs (got ++ [(x.K, x.T)]) w1 := by
  obtain ⟨tv, lv, h1, h2, h3, h4, h5, h6, h7⟩ := h
  refine (pyield h5 x.K x.T hn (by omega) (Nat.le_trans hB h7.size)).mono ?_
  rintro e w1 ⟨rfl, ⟨lv', y1, y2⟩, k1⟩
  obtain ⟨a1, a2, a3, _⟩ := h4.apart h5
  have hFn : ¬ (Fb = Lv ∨ lv.ownBlock = some Fb) := by
    rintro (e | e)
    · subst e; have := h5.lb; rw [h1] at this; simp at this
    · exact own_ne h5.own h1 (by decide) e
  refine ⟨rfl, tv, lv', ?_, h2, h3, h4.kp k1 a1 a2 a3, y1, ?_, ?_⟩
  · rw [k1.block _ (lt_of_block h1) hFn]; exact h1
  · intro i hi
    rcases y2 i hi with e | e
    · exact h6 i e
    · exact Nat.le_trans h7.size e
  · exact h7.trans k1 (fun i hi e => by
      rcases e with e | e
      · exact e
      · have := h6 i e; omega)

/-- a head is put in -/
theorem mid_push {w0 : World} {B Hb Lb Nb Lv Mb : Nat} {n : Int} {Fb : Nat} {x : Hd} {xs : List Hd} {got : Rn} {wr : World} (h : Mid w0 B Hb Lb Nb Lv Mb n Fb x xs got wr) (hH : w0.heap.size ≤ Hb) (hl : xs.length ≤ 1048576) (k t r m : Int) :
    Calls Tryz.prog 234 #[.pointer (some ⟨Hb, 0, none⟩), .agg #[.int .i64 k, .int .i64 t, .int .i64 r, .int .i64 m]] wr fun e w1 => e = .returned (.tuple #[]) ∧ Mid w0 B Hb Lb Nb Lv Mb n Fb x (pushL xs ⟨k, t, r, m⟩) got w1 := by
  obtain ⟨tv, lv, h1, h2, h3, h4, h5, h6, h7⟩ := h
  have hHl := lt_of_block h4.blk
  refine (hpush h4 k t r m (by omega) (Nat.le_of_lt hHl)).mono ?_
  rintro e w1 ⟨rfl, g, cap, p1, p2, k1⟩
  obtain ⟨_, _, _, a1, a2, a3, a4⟩ := h4.apart h5
  have hFH : Fb ≠ Hb := by rintro rfl; have b := h4.blk; rw [h1] at b; simp at b
  have hFl := lt_of_block h1
  refine ⟨rfl, _, lv, ?_, ?_, h3, p1.v, h5.kp k1 a1 a2 a3 a4, h6, ?_⟩
  · rw [k1.block _ hFl (fun e => by rcases e with e | e; exact hFH e; exact h2 e)]; exact h1
  · intro e
    simp only [Value.ownBlock, Option.some.injEq] at e
    subst e
    rcases p2 with e | e
    · exact h2 e
    · omega
  · exact h7.trans k1 (fun i hi e => by
      rcases e with rfl | e
      · omega
      · have := h4.lt i e; omega)

theorem four_put {w : World} {b : Nat} {a0 a1 a2 a3 : Value} {t : TypeId} (h : w.heap[b]? = some (.cells #[a0, a1, a2, a3] t (0, 0))) (k l r n : Value) :
    ((((w.setCell ⟨b, 0, none⟩ k).setCell ⟨b, 1, none⟩ l).setCell ⟨b, 2, none⟩ r).setCell ⟨b, 3, none⟩ n).heap[b]? = some (.cells #[k, l, r, n] t (0, 0)) := by
  simp only [World.setCell, Array.getElem?_modify, if_true, h]
  simp

/-- the next first thing -/
theorem mid_pop {w0 : World} {B Hb Lb Nb Lv Mb : Nat} {n : Int} {Fb : Nat} {x : Hd} {xs : List Hd} {rs : List Rn} {tr : List Nat} {got : Rn} {wr : World} (h : Mid w0 B Hb Lb Nb Lv Mb n Fb x xs got wr) (hH : w0.heap.size ≤ Hb) (hn : rs.length ≤ 1048576) (hh : Heads rs tr xs) (hp : Hp xs) (hl : Last tr got xs) (ht : Tr rs tr got) (hg : n < 1 ∨ (got.length : Int) < n) (o : Hd) :
    Calls Tryz.prog 233 #[.pointer (some ⟨Hb, 0, none⟩)] (wr.alloc (.cells #[.int .i64 o.K, .int .i64 o.T, .int .i64 o.r, .int .i64 o.n] 384)) fun e w1 => ∃ ok k t r m, e = .returned (.tuple #[.agg #[.int .i64 k, .int .i64 t, .int .i64 r, .int .i64 m], .bool ok]) ∧
      (w1.cell? ⟨wr.heap.size, 0, none⟩ = some (.int .i64 o.K) ∧ w1.cell? ⟨wr.heap.size, 1, none⟩ = some (.int .i64 o.T) ∧ w1.cell? ⟨wr.heap.size, 2, none⟩ = some (.int .i64 o.r) ∧ w1.cell? ⟨wr.heap.size, 3, none⟩ = some (.int .i64 o.n)) ∧ (∀ j, w1.frozen? ⟨wr.heap.size, j, none⟩ = false) ∧
      TInv w0 B Hb Lb Nb Lv Mb n rs wr.heap.size ok tr got ((((w1.setCell ⟨wr.heap.size, 0, none⟩ (.int .i64 k)).setCell ⟨wr.heap.size, 1, none⟩ (.int .i64 t)).setCell ⟨wr.heap.size, 2, none⟩ (.int .i64 r)).setCell ⟨wr.heap.size, 3, none⟩ (.int .i64 m)) := by
  obtain ⟨tv, lv, h1, h2, h3, h4, h5, h6, h7⟩ := h
  have hb0 : Below wr.heap.size wr (wr.alloc (.cells #[.int .i64 o.K, .int .i64 o.T, .int .i64 o.r, .int .i64 o.n] 384)) := (Below.refl _ _).alloc (Nat.le_refl _) _
  have q4 := h4.below hb0
  have q5 := h5.below hb0
  have hHl := lt_of_block h4.blk
  have hLl := lt_of_block h4.lss
  refine (hpopS q4 hh hp hl hn).mono ?_
  rintro e w1 ⟨ok, k, t, r, m, xs', tv', rfl, hP, hv, hown, k1⟩
  have hN : (wr.alloc (.cells #[.int .i64 o.K, .int .i64 o.T, .int .i64 o.r, .int .i64 o.n] 384)).heap[wr.heap.size]? = some (.cells #[.int .i64 o.K, .int .i64 o.T, .int .i64 o.r, .int .i64 o.n] 384 (0, 0)) := by
    show (wr.heap.push _)[wr.heap.size]? = _
    exact Array.getElem?_push_size
  have hne : tv.ownBlock ≠ some wr.heap.size := fun e => by have := (h4.own.lt _ e).2; omega
  have hN1 : w1.heap[wr.heap.size]? = some (.cells #[.int .i64 o.K, .int .i64 o.T, .int .i64 o.r, .int .i64 o.n] 384 (0, 0)) := by
    rw [k1.block _ (by simp) (fun e => by rcases e with e | e; omega; exact hne e)]; exact hN
  obtain ⟨_, _, _, a1, a2, a3, a4⟩ := q4.apart q5
  have y1 := q5.kp k1 a1 a2 a3 a4
  have K1 : Kp (· = Lv) w0 w1 := (h7.trans (Kp.of_below (P := (· = Lv)) hb0) (fun _ _ e => e)).trans k1 (fun i hi e => by
      rcases e with rfl | e
      · omega
      · have := h4.lt i e; omega)
  have hz : w0.heap.size ≤ wr.heap.size := h7.size
  refine ⟨ok, k, t, r, m, rfl, by simp [World.cell?, hN1], by simp [World.frozen?, hN1], ⟨k, t, r, m⟩, xs', ⟨tv', lv, four_put hN1 _ _ _ _, fun e => hne (hown _ e), hz, ?_, ?_, h6, ?_⟩, hP, ht, hg⟩
  · have n1 : Hb ≠ wr.heap.size := by omega
    have n2 : Lb ≠ wr.heap.size := by omega
    have n3 : tv'.ownBlock ≠ some wr.heap.size := fun e => hne (hown _ e)
    exact ⟨blk_setCell (blk_setCell (blk_setCell (blk_setCell hv.blk n1) n1) n1) n1, blk_setCell (blk_setCell (blk_setCell (blk_setCell hv.lss n2) n2) n2) n2, ownsRow_setCell_other (ownsRow_setCell_other (ownsRow_setCell_other (ownsRow_setCell_other hv.own n3 _) n3 _) n3 _) n3 _⟩
  · have n1 : Nb ≠ wr.heap.size := by have := lt_of_block h5.nb; omega
    have n2 : Lv ≠ wr.heap.size := by have := lt_of_block h5.lb; omega
    have n3 : Mb ≠ wr.heap.size := by have := lt_of_block h5.mb; omega
    have n4 : lv.ownBlock ≠ some wr.heap.size := fun e => by have := (h5.own.lt _ e).2; omega
    exact ⟨blk_setCell (blk_setCell (blk_setCell (blk_setCell y1.nb n1) n1) n1) n1, blk_setCell (blk_setCell (blk_setCell (blk_setCell y1.lb n2) n2) n2) n2, blk_setCell (blk_setCell (blk_setCell (blk_setCell y1.mb n3) n3) n3) n3, ownsRow_setCell_other (ownsRow_setCell_other (ownsRow_setCell_other (ownsRow_setCell_other y1.own n4 _) n4 _) n4 _) n4 _⟩
  · have hz2 : wr.heap.size < w0.heap.size → wr.heap.size = Lv := fun e => by omega
    exact (((K1.setCell hz2 _).setCell hz2 _).setCell hz2 _).setCell hz2 _
end Go.Proofs.YtibofakbhgmhiabGreatDoor
