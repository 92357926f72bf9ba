import Derived.Test.YtibofakbhgmhiabGreatDoorLsE
import Derived.Deep.RegionHeld3
namespace Go.Proofs.YtibofakbhgmhiabGreatDoor
open Go.RowKit

theorem TbAt.cells {B Tb : Nat} {st : Int} {cf : Cf} {w : World} {bk : Bk} {tv : Value} {vs : List Value} (h : TbAt B Tb st cf w bk tv vs) : w.cell? ⟨Tb, 10, none⟩ = some (.int .i64 bk.ph) ∧ w.cell? ⟨Tb, 11, none⟩ = some tv ∧ w.cell? ⟨Tb, 12, none⟩ = some (.int .i64 bk.gs) ∧ w.cell? ⟨Tb, 13, none⟩ = some (.int .i64 bk.now) ∧ w.cell? ⟨Tb, 14, none⟩ = some (.bool bk.fl) ∧ ∀ j, w.frozen? ⟨Tb, j, none⟩ = false := by
  simp [World.cell?, World.frozen?, h.blk]
theorem TbAt.setGs {B Tb : Nat} {st : Int} {cf : Cf} {w : World} {bk : Bk} {tv : Value} {vs : List Value} (h : TbAt B Tb st cf w bk tv vs) (x : Nat) : TbAt B Tb st cf (w.setCell ⟨Tb, 12, none⟩ (.int .i64 x)) ⟨bk.ph, bk.ts, x, bk.now, bk.fl⟩ tv vs := by
  have b := h.blk
  refine ⟨?_, h.ts.other h.blk (by decide) (by decide) _⟩
  simp only [World.setCell, Array.getElem?_modify, if_true, b]
  simp
theorem TbAt.onTs {B Tb : Nat} {st : Int} {cf : Cf} {w w' : World} {bk : Bk} {g n c : Nat} {vs vs' : List Value} {ts' : List Tk} (h : TbAt B Tb st cf w bk (.slice (some ⟨g, 0, none⟩) n c) vs) (hT : TsAt B w' (.slice (some ⟨g, 0, none⟩) n c) ts' vs') (hb : w'.heap[Tb]? = w.heap[Tb]?) : TbAt B Tb st cf w' ⟨bk.ph, ts', bk.gs, bk.now, bk.fl⟩ (.slice (some ⟨g, 0, none⟩) n c) vs' :=
  ⟨by rw [hb]; exact h.blk, hT⟩

/-- the first half of a grant: the numbers -/
def Bk.half (bk : Bk) (k : Nat) (t : Tk) : Bk := ⟨bk.ph, bk.ts.set k ⟨t.done, t.gr + 1, t.live⟩, bk.gs + 1, bk.now, bk.fl⟩

theorem half_at {B Tb : Nat} {st : Int} {cf : Cf} {w : World} {bk : Bk} {g c : Nat} {vs : List Value} (h : TbAt B Tb st cf w bk (.slice (some ⟨g, 0, none⟩) bk.ts.length c) vs) (hB : B ≤ Tb) (k : Nat) (hk : k < bk.ts.length) (o : Obj) :
    TbAt B Tb st cf (((w.setCell ⟨Tb, 12, none⟩ (.int .i64 ((bk.gs : Int) + 1))).setCell ⟨g, k * 3 + 1, none⟩ (.int .i64 ((bk.ts[k].gr : Int) + 1))).alloc o) (bk.half k bk.ts[k]) (.slice (some ⟨g, 0, none⟩) bk.ts.length c) vs ∧ Below B w (((w.setCell ⟨Tb, 12, none⟩ (.int .i64 ((bk.gs : Int) + 1))).setCell ⟨g, k * 3 + 1, none⟩ (.int .i64 ((bk.ts[k].gr : Int) + 1))).alloc o) ∧ Tf w (((w.setCell ⟨Tb, 12, none⟩ (.int .i64 ((bk.gs : Int) + 1))).setCell ⟨g, k * 3 + 1, none⟩ (.int .i64 ((bk.ts[k].gr : Int) + 1))).alloc o) ∧
      (((w.setCell ⟨Tb, 12, none⟩ (.int .i64 ((bk.gs : Int) + 1))).setCell ⟨g, k * 3 + 1, none⟩ (.int .i64 ((bk.ts[k].gr : Int) + 1))).alloc o).heap[w.heap.size]? = some o := by
  have e1 : ((bk.gs : Int) + 1) = ((bk.gs + 1 : Nat) : Int) := by omega
  have e2 : ((bk.ts[k].gr : Int) + 1) = ((bk.ts[k].gr + 1 : Nat) : Int) := by omega
  rw [e1, e2]
  have h1 := h.setGs (bk.gs + 1)
  obtain ⟨cur, hg⟩ := h1.ts.blk
  have hne := h1.apart.1
  have h2 := h1.onTs (h1.ts.putGr k hk (bk.ts[k].gr + 1)) (by rw [Below.heap_setCell _ _ _ _ hne])
  have hgB : B ≤ g := (h.ts.row.lt g rfl).1
  have hTl := lt_of_block h.blk
  refine ⟨h2.below ((Below.refl _ _).alloc (Nat.le_refl _) o), ?_, ?_, ?_⟩
  · exact (((Below.refl B w).setCell (p := ⟨Tb, 12, none⟩) hB _).setCell (p := ⟨g, k * 3 + 1, none⟩) hgB _).alloc (by simp [World.setCell]; omega) _
  · exact (((Tf.refl w).setCell h.blk (.inl rfl) _).setCell hg (.inr (.inl rfl)) _).alloc _
  · have : w.heap.size = ((w.setCell ⟨Tb, 12, none⟩ (.int .i64 ((bk.gs + 1 : Nat) : Int))).setCell ⟨g, k * 3 + 1, none⟩ (.int .i64 ((bk.ts[k].gr + 1 : Nat) : Int))).heap.size := by simp [World.setCell]
    rw [this]; exact alloc_at _ _

theorem TbAt.other {B Tb : Nat} {st : Int} {cf : Cf} {w : World} {bk : Bk} {tv : Value} {vs : List Value} (h : TbAt B Tb st cf w bk tv vs) {X j : Nat} {cc : Array Value} {t : TypeId} {fz : Nat × Nat} (hX : w.heap[X]? = some (.cells cc t fz)) (h0 : 126 ≠ t) (h1 : 205 ≠ t) (h2 : 283 ≠ t) (v : Value) : TbAt B Tb st cf (w.setCell ⟨X, j, none⟩ v) bk tv vs := by
  have hne : Tb ≠ X := by
    rintro rfl
    have := h.blk
    rw [hX] at this
    simp only [Option.some.injEq, Obj.cells.injEq] at this
    exact h0 this.2.1.symm
  exact ⟨blk_setCell h.blk hne, h.ts.other hX h1 h2 v⟩

/-- the answer is written -/
theorem grant_end {B Tb : Nat} {st : Int} {cf : Cf} {w W : World} {bk : Bk} {tv : Value} {cc : Array Value} (hX : W.heap[w.heap.size]? = some (.cells cc 50 (0, 0))) (h : ∃ vs', TbAt B Tb st cf W bk tv vs') (hb : Below B w W) (ht : Tf w W) (hB : B ≤ w.heap.size) (a0 a1 a2 a3 : Value) :
    (∃ vs', TbAt B Tb st cf ((((W.setCell ⟨w.heap.size, 0, none⟩ a0).setCell ⟨w.heap.size, 1, none⟩ a1).setCell ⟨w.heap.size, 2, none⟩ a2).setCell ⟨w.heap.size, 3, none⟩ a3) bk tv vs') ∧ Below B w ((((W.setCell ⟨w.heap.size, 0, none⟩ a0).setCell ⟨w.heap.size, 1, none⟩ a1).setCell ⟨w.heap.size, 2, none⟩ a2).setCell ⟨w.heap.size, 3, none⟩ a3) ∧ Tf w ((((W.setCell ⟨w.heap.size, 0, none⟩ a0).setCell ⟨w.heap.size, 1, none⟩ a1).setCell ⟨w.heap.size, 2, none⟩ a2).setCell ⟨w.heap.size, 3, none⟩ a3) := by
  obtain ⟨vs', h⟩ := h
  have x1 := put_block (j := 0) (v := a0) hX
  have x2 := put_block (j := 1) (v := a1) x1
  have x3 := put_block (j := 2) (v := a2) x2
  refine ⟨⟨vs', (((h.other hX (by decide) (by decide) (by decide) a0).other x1 (by decide) (by decide) (by decide) a1).other x2 (by decide) (by decide) (by decide) a2).other x3 (by decide) (by decide) (by decide) a3⟩, ?_, ?_⟩
  · exact (((hb.setCell (p := ⟨w.heap.size, 0, none⟩) hB _).setCell (p := ⟨w.heap.size, 1, none⟩) hB _).setCell (p := ⟨w.heap.size, 2, none⟩) hB _).setCell (p := ⟨w.heap.size, 3, none⟩) hB _
  · refine ⟨ht.os, ht.tape, ht.output, by simpa [World.setCell] using ht.size, fun i c t fz hi h1 h2 h3 => ?_⟩
    have hne : i ≠ w.heap.size := by have := lt_of_block hi; omega
    rw [Below.heap_setCell _ _ _ _ hne, Below.heap_setCell _ _ _ _ hne, Below.heap_setCell _ _ _ _ hne, Below.heap_setCell _ _ _ _ hne]
    exact ht.block i c t fz hi h1 h2 h3

/-- the second half of a grant: the attempt is put in -/
theorem whole_at {B Tb : Nat} {st : Int} {cf : Cf} {w wc w2 : World} {bk : Bk} {g c n : Nat} {vs : List Value} {k : Nat} (h : TbAt B Tb st cf wc bk (.slice (some ⟨g, 0, none⟩) n c) vs) (hk : k < bk.ts.length) (hv : k < vs.length) (o : Obj) (x : At) (g2 cap2 : Nat) (hb : Below B w wc) (ht : Tf w wc)
    (ho : w2.ownsRow B 283 4 (.slice (some ⟨g2, 0, none⟩) (bk.ts[k].live.length + 1) cap2) (bk.ts[k].live.length + 1) (ac bk.ts[k].live ++ [.int .i64 x.id, .int .i64 x.far, .int .i64 x.gr, .int .i64 x.hd])) (hg : ((wc.alloc o).drew).grownBy w2 vs[k].ownBlock) (hgg : vs[k].ownBlock = some g2 ∨ wc.heap.size ≤ g2) :
    TbAt B Tb st cf (w2.setCell ⟨g, k * 3 + 2, none⟩ (.slice (some ⟨g2, 0, none⟩) (bk.ts[k].live.length + 1) cap2)) ⟨bk.ph, bk.ts.set k ⟨bk.ts[k].done, bk.ts[k].gr, bk.ts[k].live ++ [x]⟩, bk.gs, bk.now, bk.fl⟩ (.slice (some ⟨g, 0, none⟩) n c) (vs.set k (.slice (some ⟨g2, 0, none⟩) (bk.ts[k].live.length + 1) cap2)) ∧
      Below B w (w2.setCell ⟨g, k * 3 + 2, none⟩ (.slice (some ⟨g2, 0, none⟩) (bk.ts[k].live.length + 1) cap2)) ∧ Tf w (w2.setCell ⟨g, k * 3 + 2, none⟩ (.slice (some ⟨g2, 0, none⟩) (bk.ts[k].live.length + 1) cap2)) ∧
      w2.cell? ⟨g, k * 3 + 2, none⟩ = some vs[k] ∧ w2.frozen? ⟨g, k * 3 + 2, none⟩ = false ∧
      ∀ (X : Nat) (cc : Array Value) (t : TypeId) (fz : Nat × Nat), wc.heap[X]? = some (.cells cc t fz) → 205 ≠ t → 283 ≠ t → (w2.setCell ⟨g, k * 3 + 2, none⟩ (.slice (some ⟨g2, 0, none⟩) (bk.ts[k].live.length + 1) cap2)).heap[X]? = some (.cells cc t fz) := by
  have hba : Below wc.heap.size wc ((wc.alloc o).drew) := ((Below.refl _ _).alloc (Nat.le_refl _) o).drew
  have h1 := h.below hba
  obtain ⟨hrow, hlive⟩ := h1.ts.grew k hv hg
  obtain ⟨cur, hgb⟩ := h1.ts.blk
  have hlk := h1.ts.live k hk hv
  have hgn : vs[k].ownBlock ≠ some g := (h1.apart.2 k hv).2
  have hg2 : w2.heap[g]? = some (.cells cur 205 (0, 0)) := by rw [hg.block g (lt_of_block hgb) (fun e => hgn e.symm)]; exact hgb
  have hn := h.ts.n_eq
  subst hn
  have hTb2 : w2.heap[Tb]? = wc.heap[Tb]? := by
    rw [hg.block Tb (lt_of_block h1.blk) (fun e => (h1.apart.2 k hv).1 e.symm)]
    exact hba.block _ (lt_of_block h.blk)
  have hTg := h.apart.1
  have hs2 := hg.size
  have hsz : wc.heap.size ≤ w2.heap.size := by simp [World.drew] at hs2; omega
  have hB0 : B ≤ wc.heap.size := by have := (h.ts.row.lt g rfl); omega
  have hgB : B ≤ g := (h.ts.row.lt g rfl).1
  have hTs : TsAt B (w2.setCell ⟨g, k * 3 + 2, none⟩ (.slice (some ⟨g2, 0, none⟩) (bk.ts[k].live.length + 1) cap2)) (.slice (some ⟨g, 0, none⟩) bk.ts.length c) (bk.ts.set k ⟨bk.ts[k].done, bk.ts[k].gr, bk.ts[k].live ++ [x]⟩) (vs.set k (.slice (some ⟨g2, 0, none⟩) (bk.ts[k].live.length + 1) cap2)) := by
    have hdk : ∀ j (hj : j < vs.length), j ≠ k → vs[j].ownBlock ≠ some g2 := by
      intro j hj hjk e
      have hjl := ((h.ts.live j (by rw [← h.ts.len]; exact hj) hj).lt g2 e).2
      rcases hgg with hgg | hgg
      · rcases h.ts.dis j k hj hv hjk with h0 | h0
        · rw [h0] at e; cases e
        · exact h0 (by rw [e, hgg])
      · omega
    refine ⟨?_, by simp [h.ts.len], fun j hj hvj => ?_, fun i j hi hj hij => ?_⟩
    · rw [List.length_set, ← tkc_set2 bk.ts vs k hk (bk.ts[k].live ++ [x]) _ h.ts.len]
      exact (hrow.stored _ _).1
    · simp only [List.length_set] at hj hvj
      by_cases e : k = j
      · subst e
        simp only [List.getElem_set_self, List.length_append, List.length_cons, List.length_nil, ac_append]
        exact ownsRow_setCell_other ho (own_ne ho hg2 (by decide)) _
      · simp only [List.getElem_set_ne e]
        have := hlive j hj hvj (fun e' => e e'.symm)
        exact ownsRow_setCell_other this (own_ne this hg2 (by decide)) _
    · simp only [List.length_set] at hi hj
      by_cases e1 : k = i
      · subst e1
        simp only [List.getElem_set_self, List.getElem_set_ne hij]
        exact .inr (fun e => hdk j hj (fun e' => hij e'.symm) (by rw [← e]; rfl))
      · by_cases e2 : k = j
        · subst e2
          simp only [List.getElem_set_self, List.getElem_set_ne e1]
          exact .inr (fun e => hdk i hi hij (by rw [e]; rfl))
        · simp only [List.getElem_set_ne e1, List.getElem_set_ne e2]
          exact h.ts.dis i j hi hj hij
  refine ⟨h.onTs hTs ?_, ?_, ?_, ?_, ?_, ?_⟩
  · rw [Below.heap_setCell _ _ _ _ hTg]; exact hTb2
  · have hb2 : Below B w w2 := (hb.trans (hba.mono hB0)).grown hg (by simp [World.drew]; omega) (fun i hi => (hlk.lt i hi).1)
    exact hb2.setCell (p := ⟨g, k * 3 + 2, none⟩) hgB _
  · exact ((ht.trans (Tf.of_below hba)).trans (Tf.grown hlk hg (.inr rfl))).setCell hg2 (.inr (.inl rfl)) _
  · have a := tkc_at bk.ts vs k hk hv
    rw [hrow.cellAt (k * 3 + 2) (by omega)]
    exact a.2.2
  · simp [World.frozen?, hg2]
  · intro X cc t fz hX t1 t2
    have hXg : X ≠ g := by
      rintro rfl
      rw [hba.block _ (lt_of_block hX)] at hgb
      rw [hX] at hgb
      simp only [Option.some.injEq, Obj.cells.injEq] at hgb
      exact t1 hgb.2.1.symm
    have hX1 : ((wc.alloc o).drew).heap[X]? = some (.cells cc t fz) := by rw [hba.block _ (lt_of_block hX)]; exact hX
    rw [Below.heap_setCell _ _ _ _ hXg, hg.block X (lt_of_block hX1) (fun e => own_ne hlk hX1 t2 e.symm)]
    exact hX1

end Go.Proofs.YtibofakbhgmhiabGreatDoor
