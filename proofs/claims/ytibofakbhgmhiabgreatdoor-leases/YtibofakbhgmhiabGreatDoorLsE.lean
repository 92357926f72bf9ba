import Derived.Test.YtibofakbhgmhiabGreatDoorLsD
import Derived.Deep.Cut
import Derived.Deep.DeepCutAuto
namespace Go.Proofs.YtibofakbhgmhiabGreatDoor
open Go.RowKit

theorem tkc_set1 : ∀ (ts : List Tk) (vs : List Value) (k : Nat) (h : k < ts.length) (x : Nat), vs.length = ts.length → (tkc ts vs).set (k * 3 + 1) (.int .i64 x) = tkc (ts.set k ⟨ts[k].done, x, ts[k].live⟩) vs
  | t :: ts, v :: vs, 0, _, x, _ => by simp [tkc]
  | t :: ts, v :: vs, k + 1, h, x, hl => by
    have := tkc_set1 ts vs k (by simpa using h) x (by simpa using hl)
    rw [show (k + 1) * 3 = k * 3 + 3 from by omega]
    simpa [tkc] using this
theorem tkc_set0 : ∀ (ts : List Tk) (vs : List Value) (k : Nat) (h : k < ts.length) (x : Bool), vs.length = ts.length → (tkc ts vs).set (k * 3) (.bool x) = tkc (ts.set k ⟨x, ts[k].gr, ts[k].live⟩) vs
  | t :: ts, v :: vs, 0, _, x, _ => by simp [tkc]
  | t :: ts, v :: vs, k + 1, h, x, hl => by
    have := tkc_set0 ts vs k (by simpa using h) x (by simpa using hl)
    rw [show (k + 1) * 3 = k * 3 + 3 from by omega]
    simpa [tkc] using this
theorem tkc_set2 : ∀ (ts : List Tk) (vs : List Value) (k : Nat) (h : k < ts.length) (l : List At) (v : Value), vs.length = ts.length → (tkc ts vs).set (k * 3 + 2) v = tkc (ts.set k ⟨ts[k].done, ts[k].gr, l⟩) (vs.set k v)
  | t :: ts, u :: vs, 0, _, l, v, _ => by simp [tkc]
  | t :: ts, u :: vs, k + 1, h, l, v, hl => by
    have := tkc_set2 ts vs k (by simpa using h) l v (by simpa using hl)
    rw [show (k + 1) * 3 = k * 3 + 3 from by omega]
    simpa [tkc] using this

theorem TsAt.keepLive {B : Nat} {w : World} {g n c : Nat} {ts : List Tk} {vs : List Value} (h : TsAt B w (.slice (some ⟨g, 0, none⟩) n c) ts vs) {u : Value} {m : Nat} {xs : List Value} (ho : w.ownsRow B 283 4 u m xs) (j : Nat) (v : Value) : (w.setCell ⟨g, j, none⟩ v).ownsRow B 283 4 u m xs := by
  obtain ⟨cur, hb⟩ := h.blk
  exact ownsRow_setCell_other ho (own_ne ho hb (by decide)) v
theorem TsAt.n_eq {B : Nat} {w : World} {a : Option Addr} {n c : Nat} {ts : List Tk} {vs : List Value} (h : TsAt B w (.slice a n c) ts vs) : n = ts.length := by
  obtain ⟨ao, cc, e⟩ := hown_slice h.row
  simp only [Value.slice.injEq] at e
  exact e.2.1
theorem TsAt.putGr {B : Nat} {w : World} {g n c : Nat} {ts : List Tk} {vs : List Value} (h : TsAt B w (.slice (some ⟨g, 0, none⟩) n c) ts vs) (k : Nat) (hk : k < ts.length) (x : Nat) :
    TsAt B (w.setCell ⟨g, k * 3 + 1, none⟩ (.int .i64 x)) (.slice (some ⟨g, 0, none⟩) n c) (ts.set k ⟨ts[k].done, x, ts[k].live⟩) vs := by
  obtain rfl := h.n_eq
  refine ⟨?_, by simp [h.len], fun j hj hv => ?_, h.dis⟩
  · rw [List.length_set, ← tkc_set1 ts vs k hk x h.len]; exact (h.row.stored _ _).1
  · simp only [List.length_set] at hj
    have := h.keepLive (h.live j hj hv) (k * 3 + 1) (.int .i64 x)
    by_cases e : k = j
    · subst e; simpa using this
    · simpa [List.getElem_set_ne e] using this
theorem TsAt.putDone {B : Nat} {w : World} {g n c : Nat} {ts : List Tk} {vs : List Value} (h : TsAt B w (.slice (some ⟨g, 0, none⟩) n c) ts vs) (k : Nat) (hk : k < ts.length) (x : Bool) :
    TsAt B (w.setCell ⟨g, k * 3, none⟩ (.bool x)) (.slice (some ⟨g, 0, none⟩) n c) (ts.set k ⟨x, ts[k].gr, ts[k].live⟩) vs := by
  obtain rfl := h.n_eq
  refine ⟨?_, by simp [h.len], fun j hj hv => ?_, h.dis⟩
  · rw [List.length_set, ← tkc_set0 ts vs k hk x h.len]; exact (h.row.stored _ _).1
  · simp only [List.length_set] at hj
    have := h.keepLive (h.live j hj hv) (k * 3) (.bool x)
    by_cases e : k = j
    · subst e; simpa using this
    · simpa [List.getElem_set_ne e] using this
theorem TsAt.putLv {B : Nat} {w : World} {g n c : Nat} {ts : List Tk} {vs : List Value} (h : TsAt B w (.slice (some ⟨g, 0, none⟩) n c) ts vs) (k : Nat) (hk : k < ts.length) (l : List At) (v : Value) (hl : w.ownsRow B 283 4 v l.length (ac l)) (hd : ∀ j (hj : j < vs.length), j ≠ k → v.ownBlock = none ∨ v.ownBlock ≠ vs[j].ownBlock) :
    TsAt B (w.setCell ⟨g, k * 3 + 2, none⟩ v) (.slice (some ⟨g, 0, none⟩) n c) (ts.set k ⟨ts[k].done, ts[k].gr, l⟩) (vs.set k v) := by
  obtain rfl := h.n_eq
  refine ⟨?_, by simp [h.len], fun j hj hv => ?_, fun i j hi hj hij => ?_⟩
  · rw [List.length_set, ← tkc_set2 ts vs k hk l v h.len]; exact (h.row.stored _ _).1
  · simp only [List.length_set] at hj hv
    by_cases e : k = j
    · subst e
      simpa using h.keepLive hl (k * 3 + 2) v
    · simpa [List.getElem_set_ne e] using h.keepLive (h.live j hj hv) (k * 3 + 2) v
  · simp only [List.length_set] at hi hj
    by_cases e1 : k = i
    · subst e1
      simp only [List.getElem_set_self, List.getElem_set_ne hij]
      exact hd j hj (fun e => hij e.symm)
    · by_cases e2 : k = j
      · subst e2
        simp only [List.getElem_set_self, List.getElem_set_ne e1]
        rcases hd i hi (fun e => hij e) with h0 | h0
        · rcases hv : vs[i].ownBlock with _ | b
          · exact .inl rfl
          · exact .inr (by rw [h0]; simp)
        · exact .inr (fun e => h0 e.symm)
      · simp only [List.getElem_set_ne e1, List.getElem_set_ne e2]
        exact h.dis i j hi hj hij
theorem TsAt.other {B : Nat} {w : World} {tv : Value} {ts : List Tk} {vs : List Value} (h : TsAt B w tv ts vs) {X j : Nat} {cc : Array Value} {t : TypeId} {fz : Nat × Nat} (hX : w.heap[X]? = some (.cells cc t fz)) (h1 : 205 ≠ t) (h2 : 283 ≠ t) (v : Value) : TsAt B (w.setCell ⟨X, j, none⟩ v) tv ts vs :=
  ⟨ownsRow_setCell_other h.row (own_ne h.row hX h1) v, h.len, fun k hk hv => ownsRow_setCell_other (h.live k hk hv) (own_ne (h.live k hk hv) hX h2) v, h.dis⟩
/-- a row of attempts grows: that of task k alone -/
theorem TsAt.grew {B : Nat} {w w2 : World} {tv : Value} {ts : List Tk} {vs : List Value} (h : TsAt B w tv ts vs) (k : Nat) (hk : k < vs.length) (hg : w.grownBy w2 vs[k].ownBlock) :
    w2.ownsRow B 205 3 tv ts.length (tkc ts vs) ∧ ∀ j (hj : j < ts.length) (hv : j < vs.length), j ≠ k → w2.ownsRow B 283 4 vs[j] ts[j].live.length (ac ts[j].live) := by
  have ho := h.live k (by rw [← h.len]; exact hk) hk
  exact ⟨h.row.kept hg (rows_ne h.row ho (by decide)), fun j hj hv hne => (h.live j hj hv).kept hg (h.dis j k hv hk hne)⟩
end Go.Proofs.YtibofakbhgmhiabGreatDoor
