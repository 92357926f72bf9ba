import Derived.Test.YtibofakbhgmhiabGreatDoorSMa
namespace Go.Proofs.YtibofakbhgmhiabGreatDoor
open Go.RowKit

/-- an attempt that counts -/
structure At where
  id : Nat
  far : Nat
  gr : Nat
  hd : Nat
deriving Inhabited
structure Tk where
  done : Bool
  gr : Nat
  live : List At
deriving Inhabited
structure Cf where
  maps : Int
  reds : Int
  wrk : Int
  att : Int
  bck : Int
  lease : Int
  late : Int
  cap : Int
/-- what a table keeps -/
structure Bk where
  ph : Nat
  ts : List Tk
  gs : Nat
  now : Nat
  fl : Bool

def ac : List At → List Value
  | [] => []
  | a :: t => .int .i64 a.id :: .int .i64 a.far :: .int .i64 a.gr :: .int .i64 a.hd :: ac t
theorem ac_length : ∀ l, (ac l).length = l.length * 4
  | [] => rfl
  | h :: t => by simp [ac, ac_length t]; omega
theorem ac_append : ∀ a b, ac (a ++ b) = ac a ++ ac b
  | [], b => rfl
  | h :: t, b => by simp [ac, ac_append t b]
theorem ac_at : ∀ (l : List At) (j : Nat) (h : j < l.length), (ac l)[j * 4]? = some (.int .i64 l[j].id) ∧ (ac l)[j * 4 + 1]? = some (.int .i64 l[j].far) ∧ (ac l)[j * 4 + 2]? = some (.int .i64 l[j].gr) ∧ (ac l)[j * 4 + 3]? = some (.int .i64 l[j].hd)
  | [], j, h => absurd h (Nat.not_lt_zero _)
  | p :: ps, 0, _ => ⟨rfl, rfl, rfl, rfl⟩
  | p :: ps, j + 1, h => by
    have := ac_at ps j (by simpa using h)
    rw [show (j + 1) * 4 = j * 4 + 4 from by omega]
    exact ⟨by simpa [ac] using this.1, by simpa [ac] using this.2.1, by simpa [ac] using this.2.2.1, by simpa [ac] using this.2.2.2⟩
/-- the cells of the tasks: each with the slice of its attempts -/
def tkc : List Tk → List Value → List Value
  | t :: ts, v :: vs => .bool t.done :: .int .i64 t.gr :: v :: tkc ts vs
  | _, _ => []
theorem tkc_length : ∀ (ts : List Tk) (vs : List Value), vs.length = ts.length → (tkc ts vs).length = ts.length * 3
  | [], [], _ => rfl
  | t :: ts, v :: vs, h => by simp [tkc, tkc_length ts vs (by simpa using h)]; omega
theorem tkc_at : ∀ (ts : List Tk) (vs : List Value) (k : Nat) (h : k < ts.length) (hv : k < vs.length), (tkc ts vs)[k * 3]? = some (.bool ts[k].done) ∧ (tkc ts vs)[k * 3 + 1]? = some (.int .i64 ts[k].gr) ∧ (tkc ts vs)[k * 3 + 2]? = some vs[k]
  | [], _, k, h, _ => absurd h (Nat.not_lt_zero _)
  | t :: ts, [], k, _, hv => absurd hv (Nat.not_lt_zero _)
  | t :: ts, v :: vs, 0, _, _ => ⟨rfl, rfl, rfl⟩
  | t :: ts, v :: vs, k + 1, h, hv => by
    have := tkc_at ts vs k (by simpa using h) (by simpa using hv)
    rw [show (k + 1) * 3 = k * 3 + 3 from by omega]
    exact ⟨by simpa [tkc] using this.1, by simpa [tkc] using this.2.1, by simpa [tkc] using this.2.2⟩
theorem tkc_set : ∀ (ts : List Tk) (vs : List Value) (k : Nat) (t : Tk) (v : Value), vs.length = ts.length → (((tkc ts vs).set (k * 3) (.bool t.done)).set (k * 3 + 1) (.int .i64 t.gr)).set (k * 3 + 2) v = tkc (ts.set k t) (vs.set k v)
  | [], [], k, t, v, _ => by simp [tkc]
  | x :: ts, u :: vs, 0, t, v, _ => by simp [tkc]
  | x :: ts, u :: vs, k + 1, t, v, h => by
    have := tkc_set ts vs k t v (by simpa using h)
    rw [show (k + 1) * 3 = k * 3 + 3 from by omega]
    simpa [tkc] using this

/-- the tasks in memory: their row, and of each the row of its attempts; no two rows lie in one block -/
structure TsAt (B : Nat) (w : World) (tv : Value) (ts : List Tk) (vs : List Value) : Prop where
  row : w.ownsRow B 205 3 tv ts.length (tkc ts vs)
  len : vs.length = ts.length
  live : ∀ k (h : k < ts.length) (hv : k < vs.length), w.ownsRow B 283 4 vs[k] ts[k].live.length (ac ts[k].live)
  dis : ∀ i j (hi : i < vs.length) (hj : j < vs.length), i ≠ j → vs[i].ownBlock = none ∨ vs[i].ownBlock ≠ vs[j].ownBlock

theorem TsAt.below {B : Nat} {w w' : World} {tv : Value} {ts : List Tk} {vs : List Value} (h : TsAt B w tv ts vs) (hb : Below w.heap.size w w') : TsAt B w' tv ts vs :=
  ⟨hown_below h.row hb, h.len, fun k hk hv => hown_below (h.live k hk hv) hb, h.dis⟩
theorem TsAt.cells {B : Nat} {w : World} {g n c : Nat} {ts : List Tk} {vs : List Value} (h : TsAt B w (.slice (some ⟨g, 0, none⟩) n c) ts vs) (k : Nat) (hk : k < ts.length) :
    w.cell? ⟨g, k * 3, none⟩ = some (.bool ts[k].done) ∧ w.cell? ⟨g, k * 3 + 1, none⟩ = some (.int .i64 ts[k].gr) ∧ w.cell? ⟨g, k * 3 + 2, none⟩ = some (vs[k]'(by rw [h.len]; exact hk)) := by
  have hr := h.row
  have hn : n = ts.length := by obtain ⟨ao, cc, e⟩ := hown_slice hr; simp only [Value.slice.injEq] at e; exact e.2.1
  subst hn
  have a := tkc_at ts vs k hk (by rw [h.len]; exact hk)
  exact ⟨(hr.cellAt _ (by omega)).trans a.1, (hr.cellAt _ (by omega)).trans a.2.1, (hr.cellAt _ (by omega)).trans a.2.2⟩
theorem TsAt.slice {B : Nat} {w : World} {tv : Value} {ts : List Tk} {vs : List Value} (h : TsAt B w tv ts vs) : ∃ a c, tv = .slice a ts.length c := hown_slice h.row
theorem TsAt.at0 {B : Nat} {w : World} {tv : Value} {ts : List Tk} {vs : List Value} (h : TsAt B w tv ts vs) (k : Nat) (hk : k < ts.length) : ∃ g c, tv = .slice (some ⟨g, 0, none⟩) ts.length c := by
  rcases h.row.2 with ⟨_, hn⟩ | ⟨g, cap, cur, hv, _⟩
  · omega
  · exact ⟨g, cap, hv⟩
theorem TsAt.lv {B : Nat} {w : World} {tv : Value} {ts : List Tk} {vs : List Value} (h : TsAt B w tv ts vs) (k : Nat) (hk : k < ts.length) (hv : k < vs.length) : ∃ a c, vs[k] = .slice a ts[k].live.length c := hown_slice (h.live k hk hv)

/-- a table's block: the lock's state, the rules, the book -/
structure TbAt (B Tb : Nat) (st : Int) (cf : Cf) (w : World) (bk : Bk) (tv : Value) (vs : List Value) : Prop where
  blk : w.heap[Tb]? = some (.cells #[.int .i32 st, .int .u32 0, .int .i64 cf.maps, .int .i64 cf.reds, .int .i64 cf.wrk, .int .i64 cf.att, .int .i64 cf.bck, .int .i64 cf.lease, .int .i64 cf.late, .int .i64 cf.cap, .int .i64 bk.ph, tv, .int .i64 bk.gs, .int .i64 bk.now, .bool bk.fl] 126 (0, 0))
  ts : TsAt B w tv bk.ts vs
theorem TbAt.below {B Tb : Nat} {st : Int} {cf : Cf} {w w' : World} {bk : Bk} {tv : Value} {vs : List Value} (h : TbAt B Tb st cf w bk tv vs) (hb : Below w.heap.size w w') : TbAt B Tb st cf w' bk tv vs :=
  ⟨by rw [hb.block _ (lt_of_block h.blk)]; exact h.blk, h.ts.below hb⟩

/-! ### small functions -/
theorem within (n a b : Int) (w : World) : Calls Tryz.prog 87 #[.int .i64 n, .int .i64 a, .int .i64 b] w fun e w' => e = .returned (.bool (decide (a ≤ n ∧ n ≤ b))) ∧ w' = w := by
  by_cases h1 : a ≤ n
  · by_cases h2 : n ≤ b
    · go_enter Tryz.func87, Tryz.ntmps87
      go_wp2
      go_ret
      exact ⟨by simp [h1, h2], rfl⟩
    · have d : decide (n ≤ b) = false := by simp; omega
      go_enter Tryz.func87, Tryz.ntmps87
      go_wp2
      go_ret
      exact ⟨by simp, rfl⟩
  · have d : decide (a ≤ n) = false := by simp; omega
    go_enter Tryz.func87, Tryz.ntmps87
    go_wp2
    go_ret
    exact ⟨by simp, rfl⟩

theorem cast_eq0 (n : Nat) : ((n : Int) == 0) = (n == 0) := by
  rcases n with _ | n
  · rfl
  · simp; omega
/-- is a task idle? -/
def Tk.idle (t : Tk) : Bool := !t.done && t.live.length == 0
theorem idle (t : Tk) (a : Option Addr) (c : Nat) (w : World) : Calls Tryz.prog 97 #[.agg #[.bool t.done, .int .i64 t.gr, .slice a t.live.length c]] w fun e w' => e = .returned (.bool t.idle) ∧ Below w.heap.size w w' := by
  have hb : Below w.heap.size w (w.alloc (.cells #[.bool t.done, .int .i64 t.gr, .slice a t.live.length c] 205)) := (Below.refl _ _).alloc (Nat.le_refl _) _
  obtain ⟨d, g, l⟩ := t
  simp only at hb ⊢
  generalize hl : l.length = n at *
  cases d with
  | true =>
    go_enter Tryz.func97, Tryz.ntmps97
    go_wp2
    go_ret
    exact ⟨by simp [Tk.idle], hb⟩
  | false =>
    go_enter Tryz.func97, Tryz.ntmps97
    go_wp2
    go_ret
    exact ⟨by simp [Tk.idle, hl, cast_eq0], hb⟩
end Go.Proofs.YtibofakbhgmhiabGreatDoor
