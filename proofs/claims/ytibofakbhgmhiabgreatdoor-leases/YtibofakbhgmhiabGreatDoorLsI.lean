import Derived.Test.YtibofakbhgmhiabGreatDoorLsH
namespace Go.Proofs.YtibofakbhgmhiabGreatDoor
open Go.RowKit

theorem ac_set3 : ∀ (l : List At) (i : Nat) (h : i < l.length) (x : Nat), (ac l).set (i * 4 + 3) (.int .i64 x) = ac (l.set i ⟨l[i].id, l[i].far, l[i].gr, x⟩)
  | a :: l, 0, _, x => by simp [ac]
  | a :: l, i + 1, h, x => by
    have := ac_set3 l i (by simpa using h) x
    rw [show (i + 1) * 4 = i * 4 + 4 from by omega]
    simpa [ac] using this
theorem ac_set1 : ∀ (l : List At) (i : Nat) (h : i < l.length) (x : Nat), (ac l).set (i * 4 + 1) (.int .i64 x) = ac (l.set i ⟨l[i].id, x, l[i].gr, l[i].hd⟩)
  | a :: l, 0, _, x => by simp [ac]
  | a :: l, i + 1, h, x => by
    have := ac_set1 l i (by simpa using h) x
    rw [show (i + 1) * 4 = i * 4 + 4 from by omega]
    simpa [ac] using this
theorem set_back {α : Type} (l : List α) (k : Nat) (h : k < l.length) : l.set k l[k] = l := by simp

/-- a cell of the attempts of task k is written -/
theorem TsAt.putAt {B : Nat} {w : World} {tv : Value} {ts : List Tk} {vs : List Value} (h : TsAt B w tv ts vs) (k : Nat) (hk : k < ts.length) (hv : k < vs.length) {lb n c : Nat} (e : vs[k] = .slice (some ⟨lb, 0, none⟩) n c) (j : Nat) (u : Value) (l' : List At) (hl : l'.length = ts[k].live.length) (ha : (ac ts[k].live).set j u = ac l') :
    TsAt B (w.setCell ⟨lb, j, none⟩ u) tv (ts.set k ⟨ts[k].done, ts[k].gr, l'⟩) vs ∧ ∃ cur, w.heap[lb]? = some (.cells cur 283 (0, 0)) ∧ B ≤ lb := by
  have ho := h.live k hk hv
  rw [e] at ho
  have hn : n = ts[k].live.length := by obtain ⟨ao, cc, e'⟩ := hown_slice ho; simp only [Value.slice.injEq] at e'; exact e'.2.1
  subst hn
  obtain ⟨cur, hb, hB⟩ : ∃ cur, w.heap[lb]? = some (.cells cur 283 (0, 0)) ∧ B ≤ lb := by
    rcases ho.2 with ⟨hn, _⟩ | ⟨g', cap', cur, hv', hb, hg, _⟩
    · cases hn
    · simp only [Value.slice.injEq, Option.some.injEq, Addr.mk.injEq] at hv'
      obtain ⟨⟨rfl, _, _⟩, _, rfl⟩ := hv'
      exact ⟨cur, hg, hb⟩
  refine ⟨⟨?_, by simp [h.len], fun i hi hvi => ?_, h.dis⟩, cur, hb, hB⟩
  · have e2 : tkc (ts.set k ⟨ts[k].done, ts[k].gr, l'⟩) vs = tkc ts vs := by
      have := tkc_set2 ts vs k hk l' vs[k] h.len
      rw [set_back vs k hv] at this
      rw [← this]
      have a := (tkc_at ts vs k hk hv).2.2
      obtain ⟨hlt, hget⟩ := List.getElem?_eq_some_iff.1 a
      rw [← hget]; simp
    rw [List.length_set, e2]
    exact ownsRow_setCell_other h.row (own_ne h.row hb (by decide)) u
  · simp only [List.length_set] at hi
    by_cases e1 : k = i
    · subst e1
      simp only [List.getElem_set_self]
      rw [hl, ← ha, e]
      exact (ho.stored j u).1
    · simp only [List.getElem_set_ne e1]
      have hlb : vs[i].ownBlock ≠ some lb := by
        intro e'
        rcases h.dis i k hvi hv (fun e => e1 e.symm) with h0 | h0
        · rw [h0] at e'; cases e'
        · exact h0 (by rw [e', e]; rfl)
      exact ownsRow_setCell_other (h.live i hi hvi) hlb u

/-- the attempt i of task k is heard of -/
def Bk.beat (bk : Bk) (k i f : Nat) (t : Tk) (x : At) : Bk := ⟨bk.ph, bk.ts.set k ⟨t.done, t.gr, t.live.set i ⟨x.id, f, x.gr, bk.now⟩⟩, bk.gs, bk.now, bk.fl⟩

theorem beat_at {B Tb : Nat} {st : Int} {cf : Cf} {w w0 : World} {bk : Bk} {g n c : Nat} {vs : List Value} (h : TbAt B Tb st cf w bk (.slice (some ⟨g, 0, none⟩) n c) vs) (hb : Below B w0 w) (ht : Tf w0 w) (k : Nat) (hk : k < bk.ts.length) (hv : k < vs.length) {lb m lc : Nat} (e : vs[k] = .slice (some ⟨lb, 0, none⟩) m lc) (i : Nat) (hi : i < bk.ts[k].live.length) (f : Nat) :
    TbAt B Tb st cf ((w.setCell ⟨lb, i * 4 + 3, none⟩ (.int .i64 bk.now)).setCell ⟨lb, i * 4 + 1, none⟩ (.int .i64 f)) (bk.beat k i f bk.ts[k] bk.ts[k].live[i]) (.slice (some ⟨g, 0, none⟩) n c) vs ∧ Below B w0 ((w.setCell ⟨lb, i * 4 + 3, none⟩ (.int .i64 bk.now)).setCell ⟨lb, i * 4 + 1, none⟩ (.int .i64 f)) ∧ Tf w0 ((w.setCell ⟨lb, i * 4 + 3, none⟩ (.int .i64 bk.now)).setCell ⟨lb, i * 4 + 1, none⟩ (.int .i64 f)) := by
  obtain ⟨h1, cur, hlb, hB⟩ := h.ts.putAt k hk hv e (i * 4 + 3) (.int .i64 bk.now) _ (by simp) (ac_set3 _ i hi bk.now)
  have hk1 : k < (bk.ts.set k ⟨bk.ts[k].done, bk.ts[k].gr, bk.ts[k].live.set i ⟨bk.ts[k].live[i].id, bk.ts[k].live[i].far, bk.ts[k].live[i].gr, bk.now⟩⟩).length := by simpa using hk
  have ek : (bk.ts.set k ⟨bk.ts[k].done, bk.ts[k].gr, bk.ts[k].live.set i ⟨bk.ts[k].live[i].id, bk.ts[k].live[i].far, bk.ts[k].live[i].gr, bk.now⟩⟩)[k] = ⟨bk.ts[k].done, bk.ts[k].gr, bk.ts[k].live.set i ⟨bk.ts[k].live[i].id, bk.ts[k].live[i].far, bk.ts[k].live[i].gr, bk.now⟩⟩ := by simp
  have hi1 : i < ((bk.ts.set k ⟨bk.ts[k].done, bk.ts[k].gr, bk.ts[k].live.set i ⟨bk.ts[k].live[i].id, bk.ts[k].live[i].far, bk.ts[k].live[i].gr, bk.now⟩⟩)[k]).live.length := by rw [ek]; simpa using hi
  obtain ⟨h2, cur2, hlb2, _⟩ := h1.putAt k hk1 hv e (i * 4 + 1) (.int .i64 f) _ (by simp) (ac_set1 _ i hi1 f)
  have hT : Tb ≠ lb := by
    rintro rfl
    have := h.blk
    rw [hlb] at this
    simp at this
  refine ⟨⟨?_, ?_⟩, (hb.setCell (p := ⟨lb, i * 4 + 3, none⟩) hB _).setCell (p := ⟨lb, i * 4 + 1, none⟩) hB _, (ht.setCell hlb (.inr (.inr rfl)) _).setCell hlb2 (.inr (.inr rfl)) _⟩
  · exact blk_setCell (blk_setCell h.blk hT) hT
  · simp only [ek] at h2
    have eb : (bk.beat k i f bk.ts[k] bk.ts[k].live[i]).ts = (bk.ts.set k ⟨bk.ts[k].done, bk.ts[k].gr, bk.ts[k].live.set i ⟨bk.ts[k].live[i].id, bk.ts[k].live[i].far, bk.ts[k].live[i].gr, bk.now⟩⟩).set k ⟨bk.ts[k].done, bk.ts[k].gr, (bk.ts[k].live.set i ⟨bk.ts[k].live[i].id, bk.ts[k].live[i].far, bk.ts[k].live[i].gr, bk.now⟩).set i ⟨bk.ts[k].live[i].id, f, bk.ts[k].live[i].gr, bk.now⟩⟩ := by
      simp [Bk.beat]
    rw [eb]
    simpa using h2
end Go.Proofs.YtibofakbhgmhiabGreatDoor
