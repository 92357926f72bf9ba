import Derived.Test.YtibofakbhgmhiabGreatDoorLsC
namespace Go.Proofs.YtibofakbhgmhiabGreatDoor
open Go.RowKit
theorem Tryz.infoAtt : (Tryz.prog.info? 283).map (fun i => (i.zero, i.size, i.bytes)) = some (some (.agg #[.int .i64 0, .int .i64 0, .int .i64 0, .int .i64 0]), 4, 32) := by kernel_rfl

/-- the block of the tasks' row -/
theorem TsAt.blk {B : Nat} {w : World} {g n c : Nat} {ts : List Tk} {vs : List Value} (h : TsAt B w (.slice (some ⟨g, 0, none⟩) n c) ts vs) : ∃ cur, w.heap[g]? = some (.cells cur 205 (0, 0)) := by
  rcases h.row.2 with ⟨hn, _⟩ | ⟨g', cap', cur, hv, hb, hg, _⟩
  · cases hn
  · simp only [Value.slice.injEq, Option.some.injEq, Addr.mk.injEq] at hv
    obtain ⟨⟨rfl, _, _⟩, _, rfl⟩ := hv
    exact ⟨cur, hg⟩
/-- a task is written whole -/
theorem TsAt.put {B : Nat} {w : World} {g n c : Nat} {ts : List Tk} {vs : List Value} (h : TsAt B w (.slice (some ⟨g, 0, none⟩) n c) ts vs) (k : Nat) (t : Tk) (v : Value) (hl : w.ownsRow B 283 4 v t.live.length (ac t.live)) (hd : ∀ j (hj : j < vs.length), j ≠ k → v.ownBlock = none ∨ v.ownBlock ≠ vs[j].ownBlock) :
    TsAt B (((w.setCell ⟨g, k * 3, none⟩ (.bool t.done)).setCell ⟨g, k * 3 + 1, none⟩ (.int .i64 t.gr)).setCell ⟨g, k * 3 + 2, none⟩ v) (.slice (some ⟨g, 0, none⟩) n c) (ts.set k t) (vs.set k v) := by
  obtain ⟨cur, hb⟩ := h.blk
  have hn : n = ts.length := by obtain ⟨ao, cc, e⟩ := hown_slice h.row; simp only [Value.slice.injEq] at e; exact e.2.1
  subst hn
  have keep : ∀ {v : Value} {m : Nat} {xs : List Value}, w.ownsRow B 283 4 v m xs → (((w.setCell ⟨g, k * 3, none⟩ (.bool t.done)).setCell ⟨g, k * 3 + 1, none⟩ (.int .i64 t.gr)).setCell ⟨g, k * 3 + 2, none⟩ v).ownsRow B 283 4 v m xs ∧ ∀ u, (((w.setCell ⟨g, k * 3, none⟩ (.bool t.done)).setCell ⟨g, k * 3 + 1, none⟩ (.int .i64 t.gr)).setCell ⟨g, k * 3 + 2, none⟩ u).ownsRow B 283 4 v m xs := by
    intro v m xs ho
    have hne := own_ne ho hb (by decide)
    have := fun u => ownsRow_setCell_other (a := ⟨g, k * 3 + 2, none⟩) (ownsRow_setCell_other (a := ⟨g, k * 3 + 1, none⟩) (ownsRow_setCell_other (a := ⟨g, k * 3, none⟩) ho hne (.bool t.done)) hne (.int .i64 t.gr)) hne u
    exact ⟨this v, this⟩
  refine ⟨?_, by simp [h.len], fun j hj hv => ?_, fun i j hi hj hij => ?_⟩
  · rw [List.length_set, ← tkc_set ts vs k t v h.len]
    exact (((h.row.stored _ _).1.stored _ _).1.stored _ _).1
  · simp only [List.length_set] at hj hv
    by_cases e : k = j
    · subst e
      simp only [List.getElem_set_self]
      exact (keep hl).1
    · simp only [List.getElem_set_ne e]
      exact (keep (h.live j hj hv)).2 v
  · simp only [List.length_set] at hi hj
    by_cases e1 : k = i
    · subst e1
      simp only [List.getElem_set_self, List.getElem_set_ne hij]
      exact hd j hj (fun e => hij e.symm)
    · by_cases e2 : k = j
      · subst e2
        simp only [List.getElem_set_self, List.getElem_set_ne e1]
        rcases hd i hi (fun e => hij e) with h0 | h0
        · rcases hv : vs[i].ownBlock with _ | b
          · exact .inl rfl
          · exact .inr (by rw [h0]; simp)
        · exact .inr (fun e => h0 e.symm)
      · simp only [List.getElem_set_ne e1, List.getElem_set_ne e2]
        exact h.dis i j hi hj hij

/-- the table's blocks are none of each other's -/
theorem TbAt.apart {B Tb : Nat} {st : Int} {cf : Cf} {w : World} {bk : Bk} {g n c : Nat} {vs : List Value} (h : TbAt B Tb st cf w bk (.slice (some ⟨g, 0, none⟩) n c) vs) : Tb ≠ g ∧ ∀ k (hk : k < vs.length), vs[k].ownBlock ≠ some Tb ∧ vs[k].ownBlock ≠ some g := by
  obtain ⟨cur, hg⟩ := h.ts.blk
  refine ⟨?_, fun k hk => ⟨?_, ?_⟩⟩
  · rintro rfl
    have := h.blk
    rw [hg] at this
    simp at this
  · exact own_ne (h.ts.live k (by rw [← h.ts.len]; exact hk) hk) h.blk (by decide)
  · exact own_ne (h.ts.live k (by rw [← h.ts.len]; exact hk) hk) hg (by decide)

/-- what a grant adds to a task -/
def Tk.granted (t : Tk) (id now : Nat) : Tk := ⟨t.done, t.gr + 1, t.live ++ [⟨id, 0, now, now⟩]⟩
def Bk.granted (bk : Bk) (k : Nat) (t : Tk) : Bk := ⟨bk.ph, bk.ts.set k (t.granted (bk.gs + 1) bk.now), bk.gs + 1, bk.now, bk.fl⟩

end Go.Proofs.YtibofakbhgmhiabGreatDoor
