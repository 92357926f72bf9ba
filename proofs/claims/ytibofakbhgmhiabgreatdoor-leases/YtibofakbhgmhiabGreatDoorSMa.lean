import Derived.Test.YtibofakbhgmhiabGreatDoorSStp
import Derived.Test.YtibofakbhgmhiabGreatDoorMg
namespace Go.Proofs.YtibofakbhgmhiabGreatDoor
open Go.RowKit

/-- runs of numbers that lie somewhere -/
def IRunsAt (w : World) (v : Value) (rr : List (List Int)) : Prop :=
  ∃ a c, v = .slice a rr.length c ∧ ∀ i (h : i < rr.length), ∃ b, a = some ⟨b, 0, none⟩ ∧ ∃ ai ci, w.cell? ⟨b, i, none⟩ = some (.slice ai rr[i].length ci) ∧
    ∀ j (hj : j < rr[i].length), ∃ bi, ai = some ⟨bi, 0, none⟩ ∧ w.cell? ⟨bi, j, none⟩ = some (.int .i64 rr[i][j])
theorem IRunsAt.below {w w' : World} {v : Value} {rr : List (List Int)} (h : IRunsAt w v rr) (hb : Below w.heap.size w w') : IRunsAt w' v rr := by
  obtain ⟨a, c, rfl, hc⟩ := h
  refine ⟨a, c, rfl, fun i hi => ?_⟩
  obtain ⟨b, rfl, ai, ci, h1, h2⟩ := hc i hi
  refine ⟨b, rfl, ai, ci, (hb.cell (hp_lt h1)).trans h1, fun j hj => ?_⟩
  obtain ⟨bi, rfl, h3⟩ := h2 j hj
  exact ⟨bi, rfl, (hb.cell (hp_lt h3)).trans h3⟩
theorem iruns_of {w : World} {B : Nat} {v : Value} {rr : List (List Int)} {xr : List Value} (h : w.ownsRow B 66 1 v rr.length xr) (hr : RowsAt w B xr rr) : IRunsAt w v rr := by
  have h' := h
  have hxl : xr.length = rr.length := by have := h.1; omega
  obtain ⟨a, c, rfl⟩ := hown_slice h
  refine ⟨a, c, rfl, fun i hi => ?_⟩
  rcases h.2 with ⟨_, hn⟩ | ⟨g, cap, cur, hv, _⟩
  · omega
  · simp only [Value.slice.injEq] at hv
    obtain ⟨rfl, _, rfl⟩ := hv
    obtain ⟨u, hu, ho⟩ := hr i hi
    obtain ⟨ai, ci, rfl⟩ := hown_slice ho
    refine ⟨g, rfl, ai, ci, (h'.cellAt i (by omega)).trans hu, fun j hj => ?_⟩
    rcases ho.2 with ⟨_, hn⟩ | ⟨g2, cap2, cur2, hv2, _⟩
    · omega
    · simp only [Value.slice.injEq] at hv2
      obtain ⟨rfl, _, rfl⟩ := hv2
      exact ⟨g2, rfl, (own_cell ho j hj).1⟩
theorem runs_of_copied {w : World} {B : Nat} {v : Value} {rs : List Rn} {vs : List Value} (h : w.ownsRow B 104 1 v rs.length vs) (hc : Copied w B vs rs rs.length) : RunsAt w v rs := by
  have h' := h
  obtain ⟨a, c, rfl⟩ := hown_slice h
  refine ⟨a, c, rfl, fun i hi => ?_⟩
  rcases h.2 with ⟨_, hn⟩ | ⟨g, cap, cur, hv, _⟩
  · omega
  · simp only [Value.slice.injEq] at hv
    obtain ⟨rfl, _, rfl⟩ := hv
    obtain ⟨u, hu, ho⟩ := hc i hi hi
    obtain ⟨a', c', rfl, hz, hra⟩ := run_of_own ho
    exact ⟨g, rfl, a', c', hz, (h'.cellAt i (by omega)).trans hu, hra⟩
theorem Copied.below {w w' : World} {B : Nat} {vs : List Value} {rs : List Rn} {j : Nat} (h : Copied w B vs rs j) (hb : Below w.heap.size w w') : Copied w' B vs rs j := fun i hi hij => by
  obtain ⟨v, h1, h2⟩ := h i hi hij
  exact ⟨v, h1, hown_below h2 hb⟩
theorem own_mono {w : World} {B B' : Nat} {e : TypeId} {s : Nat} {v : Value} {n : Nat} {xs : List Value} (h : w.ownsRow B e s v n xs) (hB : B' ≤ B) : w.ownsRow B' e s v n xs := by
  refine ⟨h.1, ?_⟩
  rcases h.2 with h | ⟨g, cap, cur, hv, hg, r⟩
  · exact .inl h
  · exact .inr ⟨g, cap, cur, hv, by omega, r⟩
/-- a run more is copied -/
theorem Copied.snoc {w w2 : World} {B : Nat} {vs : List Value} {rs : List Rn} {k : Nat} {v u : Value} (h : Copied w B vs rs k) (ho : w.ownsRow B 104 1 v k vs) (hg : w.grownBy w2 v.ownBlock) (hk : k < rs.length) (hu : w.ownsRow B 106 2 u rs[k].length (rc rs[k])) : Copied w2 B (vs ++ [u]) rs (k + 1) := fun i hi hij => by
  have hvl : vs.length = k := by have := ho.1; omega
  by_cases e : i < k
  · obtain ⟨x, h1, h2⟩ := h i hi e
    exact ⟨x, by rw [List.getElem?_append_left (by omega)]; exact h1, h2.kept hg (rows_ne h2 ho (by decide))⟩
  · have : i = k := by omega
    subst this
    exact ⟨u, by rw [← hvl]; simp, hu.kept hg (rows_ne hu ho (by decide))⟩
theorem two_new (w1 : World) (x y : Value) (t : TypeId) : ∀ (j : Nat) (u : Value), [x, y][j]? = some u → (w1.alloc (.cells #[x, y] t)).cell? ((⟨w1.heap.size, 0, none⟩ : Addr).add j) = some u := by
  intro j u hj
  have e : (⟨w1.heap.size, 0, none⟩ : Addr).add j = ⟨w1.heap.size, j, none⟩ := by unfold Addr.add; split <;> simp_all
  rw [e, World.cell?_alloc_at _ _ _ _ (by simp)]
  rcases j with _ | _ | j
  · simpa using hj
  · simpa using hj
  · simp at hj
theorem one_new (w1 : World) (v : Value) (t : TypeId) : ∀ (j : Nat) (u : Value), [v][j]? = some u → (w1.alloc (.cells #[v] t)).cell? ((⟨w1.heap.size, 0, none⟩ : Addr).add j) = some u := by
  intro j u hj
  have e : (⟨w1.heap.size, 0, none⟩ : Addr).add j = ⟨w1.heap.size, j, none⟩ := by unfold Addr.add; split <;> simp_all
  rw [e, World.cell?_alloc_at _ _ _ _ (by simp)]
  rcases j with _ | j
  · simpa using hj
  · simp at hj
theorem rnOf_take_succ (i : Nat) (l : List Int) (j : Nat) (h : j < l.length) : (rnOf i l).take (j + 1) = (rnOf i l).take j ++ [(l[j], 1048576 * (i : Int) + (j : Int))] := by
  rw [List.take_succ_eq_append_getElem (by rw [rnOf_length]; exact h), rnOf_at i l j h]

/-- what plain.Merge has answered -/
structure Check (w : World) (rr : List (List Int)) (tr : List Nat) (got : Rn) (al : Option Addr) (cl : Nat) : Prop where
  tr' : Tr (rsOf rr) tr got
  own : ∃ B, w.ownsRow B 106 2 (.slice al got.length cl) got.length (rc got)
theorem rsOf_lens {rr : List (List Int)} (h : ∀ r ∈ rr, r.length ≤ 1048576) : ∀ r ∈ rsOf rr, r.length ≤ 1048576 := by
  intro r hr
  obtain ⟨i, hi, rfl⟩ := List.getElem_of_mem hr
  rw [rsOf_length] at hi
  rw [rsOf_at rr i hi, rnOf_length]
  exact h _ (List.getElem_mem hi)
theorem want_eq (g : Nat) (n : Int) (T : Nat) (h : g = wantN n T) : ((1 ≤ n ∧ n < T) → ((g : Int) != n) = false) ∧ ((n < 1 ∨ (T : Int) ≤ n) → ((g : Int) != (T : Int)) = false) := by
  subst h
  unfold wantN
  constructor
  · intro h; rw [if_pos h]; simp; omega
  · intro h; rw [if_neg (by omega)]; simp

theorem made_ints (m : Nat) : (madeCells (Value.int .i64 0).cells (m * 1)).toList = ic (List.replicate m 0) := by
  apply List.ext_getElem
  · simp [madeCells, ic]
  · intro i h1 h2
    simp [madeCells, ic, Value.cells, Nat.mod_one]
/-- what the check reads in its round k -/
theorem chk_step {w2 wr : World} {rr : List (List Int)} {tr : List Nat} {got : Rn} {al a : Option Addr} {cl c : Nat} (hC : Check w2 rr tr got al cl) (hI : IRunsAt w2 (.slice a rr.length c) rr) (hlen : ∀ r ∈ rr, r.length ≤ 1048576) (hn : rr.length ≤ 1048576) (k : Nat) (hk : k < got.length)
    (hpl : wr.ownsRow w2.heap.size 3 1 (.slice (some ⟨w2.heap.size, 0, none⟩) rr.length rr.length) rr.length (ic (plc tr rr.length k))) (hb : Below w2.heap.size w2 wr) :
    ∃ (gb b bi r cnt len ci : Nat) (K T : Int), al = some ⟨gb, 0, none⟩ ∧ a = some ⟨b, 0, none⟩ ∧ wr.cell? ⟨gb, k * 2, none⟩ = some (.int .i64 K) ∧ wr.cell? ⟨gb, k * 2 + 1, none⟩ = some (.int .i64 T) ∧
      r < rr.length ∧ cnt < len ∧ len ≤ 1048576 ∧ (0 ≤ T ∧ T ≤ 1099513724928 ∧ T.tdiv 1048576 = (r : Int) ∧ T.tmod 1048576 = (cnt : Int)) ∧ gb < w2.heap.size ∧
      (∀ o, (wr.alloc o).cell? ⟨b, r, none⟩ = some (.slice (some ⟨bi, 0, none⟩) len ci)) ∧ (∀ o, (wr.alloc o).cell? ⟨bi, cnt, none⟩ = some (.int .i64 K)) ∧ (∀ o, (wr.alloc o).cell? ⟨w2.heap.size, r, none⟩ = some (.int .i64 cnt)) ∧ (∀ o, (wr.alloc o).frozen? ⟨w2.heap.size, r, none⟩ = false) ∧ w2.heap.size < wr.heap.size ∧
      (∀ o q q', ((((wr.alloc o).drewN q).setCell ⟨w2.heap.size, r, none⟩ (.int .i64 ((cnt : Int) + 1))).drewN q').ownsRow w2.heap.size 3 1 (.slice (some ⟨w2.heap.size, 0, none⟩) rr.length rr.length) rr.length (ic (plc tr rr.length (k + 1)))) ∧
      (0 < k → ∃ (r' : Nat) (K' T' : Int), (∀ o, (wr.alloc o).cell? ⟨gb, (k - 1) * 2, none⟩ = some (.int .i64 K')) ∧ (∀ o, (wr.alloc o).cell? ⟨gb, (k - 1) * 2 + 1, none⟩ = some (.int .i64 T')) ∧ T'.tdiv 1048576 = (r' : Int) ∧ 0 ≤ T' ∧ T' ≤ 1099513724928 ∧ (K' < K ∨ (K' = K ∧ r' ≤ r))) := by
  obtain ⟨hT, B, ho⟩ := hC
  have hkt : k < tr.length := by rw [← hT.len]; exact hk
  have hsz := hb.size
  obtain ⟨gb, rfl⟩ : ∃ gb, al = some ⟨gb, 0, none⟩ := by
    rcases ho.2 with ⟨_, hn⟩ | ⟨g, cap, cur, hv, _⟩
    · omega
    · simp only [Value.slice.injEq] at hv
      exact ⟨g, hv.1⟩
  have hgb : gb < w2.heap.size := (ho.lt gb rfl).2
  obtain ⟨hr, hp, hge, hc20⟩ := told_at hT hlen k hkt hk
  obtain ⟨a', c', ea, hcell⟩ := hI
  simp only [Value.slice.injEq] at ea
  obtain ⟨rfl, _, rfl⟩ := ea
  obtain ⟨b, rfl, ai, ci, r1, r2⟩ := hcell tr[k] hr
  obtain ⟨bi, rfl, r3⟩ := r2 _ hp
  have hg := rc_at got k hk
  have hne : w2.heap.size < wr.heap.size := (hpl.lt w2.heap.size rfl).2
  have hpc := own_cell hpl tr[k] (by rw [plc_length]; exact hr)
  rw [plc_at _ _ _ _ hr] at hpc
  have up : ∀ {p : Addr} {v : Value}, wr.cell? p = some v → ∀ o, (wr.alloc o).cell? p = some v := fun h o => (World.cell?_alloc_lt wr o _ (hp_lt h)).trans h
  have lift : ∀ {p : Addr} {v : Value}, w2.cell? p = some v → wr.cell? p = some v := fun h => (hb.cell (hp_lt h)).trans h
  have hlr := hlen _ (List.getElem_mem hr)
  have g0 := lift ((ho.cellAt (k * 2) (by omega)).trans hg.1)
  have g1 := lift ((ho.cellAt (k * 2 + 1) (by omega)).trans hg.2)
  rw [hge] at g0 g1
  have tq : ∀ (x y : Nat), y < 1048576 → (1048576 * (x : Int) + (y : Int)).tdiv 1048576 = (x : Int) ∧ (1048576 * (x : Int) + (y : Int)).tmod 1048576 = (y : Int) := by
    intro x y hy
    rw [Int.tdiv_eq_ediv_of_nonneg (by omega), Int.tmod_eq_emod_of_nonneg (by omega)]
    omega
  refine ⟨gb, b, bi, tr[k], (tr.take k).count tr[k], rr[tr[k]].length, ci, _, _, rfl, rfl, g0, g1, hr, hp, hlr, ⟨by omega, by omega, (tq _ _ hc20).1, (tq _ _ hc20).2⟩, hgb, up (lift r1), up (lift r3), up hpc.1, fun o => ?_, hne, fun o q q' => ?_, fun hk0 => ?_⟩
  · have hf := hpc.2
    have hh : (wr.alloc o).heap[w2.heap.size]? = wr.heap[w2.heap.size]? := Below.heap_alloc _ _ _ hne
    simp only [World.frozen?] at hf ⊢
    rw [hh]; exact hf
  · have h1 := own_set (w := (wr.alloc o).drewN q) (hown_below hpl (below_drewN ((Below.refl _ _).alloc (Nat.le_refl _) o) q)) tr[k] (.int .i64 ((((tr.take k).count tr[k] : Nat) : Int) + 1))
    rw [ic_set, ← plc_succ tr rr.length k hkt] at h1
    exact hown_below h1 (below_drewN (Below.refl _ _) q')
  · obtain ⟨hr', hp', hge', hc20'⟩ := told_at hT hlen (k - 1) (by omega) (by omega)
    have hg' := rc_at got (k - 1) (by omega)
    have g0' := lift ((ho.cellAt ((k - 1) * 2) (by omega)).trans hg'.1)
    have g1' := lift ((ho.cellAt ((k - 1) * 2 + 1) (by omega)).trans hg'.2)
    have hord := hT.ord (k - 1) (by omega)
    simp only [show k - 1 + 1 = k from by omega] at hord
    rw [hge', hge] at hord
    rw [hge'] at g0' g1'
    have hq := tq tr[k - 1] _ hc20'
    refine ⟨tr[k - 1], _, _, up g0', up g1', hq.1, by omega, by omega, hord⟩

end Go.Proofs.YtibofakbhgmhiabGreatDoor
