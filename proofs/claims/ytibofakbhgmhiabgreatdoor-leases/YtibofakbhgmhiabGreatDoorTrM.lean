import Derived.Test.YtibofakbhgmhiabGreatDoorHpM
import Derived.Test.YtibofakbhgmhiabGreatDoorFst
namespace Go.Proofs.YtibofakbhgmhiabGreatDoor
open Go.RowKit

/-- what a merge has told so far: tr, the runs in the order of telling -/
structure Tr (rs : List Rn) (tr : List Nat) (got : Rn) : Prop where
  len : got.length = tr.length
  at' : ∀ i (h : i < tr.length), ∃ (hr : tr[i] < rs.length) (hp : (tr.take i).count tr[i] < rs[tr[i]].length), got[i]'(by omega) = rs[tr[i]][(tr.take i).count tr[i]]
  ord : ∀ i (h : i + 1 < tr.length), (got[i]'(by omega)).1 < (got[i + 1]'(by omega)).1 ∨ ((got[i]'(by omega)).1 = (got[i + 1]'(by omega)).1 ∧ tr[i]'(by omega) ≤ tr[i + 1])

/-- the head of run i, where p things of it are told -/
def hdAt (rs : List Rn) (i p : Nat) (h : Hd) : Prop := ∃ (hi : i < rs.length) (hp : p < rs[i].length), h = ⟨rs[i][p].1, rs[i][p].2, i, (p + 1 : Nat)⟩

/-- the heads that stand when tr is told -/
structure Heads (rs : List Rn) (tr : List Nat) (xs : List Hd) : Prop where
  ok : ∀ h ∈ xs, ∃ i, hdAt rs i (tr.count i) h
  nd : (xs.map Hd.r).Nodup
  all : ∀ i (hi : i < rs.length), tr.count i < rs[i].length → ∃ h ∈ xs, hdAt rs i (tr.count i) h

theorem hdAt.r_eq {rs : List Rn} {i p : Nat} {h : Hd} (a : hdAt rs i p h) : h.r = i := by obtain ⟨_, _, rfl⟩ := a; rfl
theorem hdAt.n_eq {rs : List Rn} {i p : Nat} {h : Hd} (a : hdAt rs i p h) : h.n = (p + 1 : Nat) := by obtain ⟨_, _, rfl⟩ := a; rfl

theorem Heads.perm {rs : List Rn} {tr : List Nat} {xs ys : List Hd} (h : Heads rs tr xs) (p : ys.Perm xs) : Heads rs tr ys :=
  ⟨fun a ha => h.ok a (p.mem_iff.1 ha), ((p.map Hd.r).nodup_iff).2 h.nd, fun i hi hc => by obtain ⟨a, ha, hb⟩ := h.all i hi hc; exact ⟨a, p.mem_iff.2 ha, hb⟩⟩

/-- the sum of the runs' lengths -/
def total (rs : List Rn) : Nat := (rs.map List.length).sum

theorem count_snoc (tr : List Nat) (a i : Nat) : (tr ++ [a]).count i = tr.count i + (if a = i then 1 else 0) := by
  rw [List.count_append, List.count_singleton]
  simp [beq_iff_eq]

theorem sum_counts (tr : List Nat) : ∀ (rs : List Rn), (∀ a ∈ tr, a < rs.length) → tr.length = ((List.range rs.length).map (fun i => tr.count i)).sum := by
  intro rs h
  have key : ∀ (n : Nat) (tr : List Nat), (∀ a ∈ tr, a < n) → tr.length = ((List.range n).map (fun i => tr.count i)).sum := by
    intro n
    induction n with
    | zero =>
      intro tr h
      cases tr with
      | nil => rfl
      | cons a t => exact absurd (h a (by simp)) (Nat.not_lt_zero _)
    | succ n ih =>
      intro tr h
      rw [List.range_succ, List.map_append, List.sum_append]
      have e := ih (tr.filter (· ≠ n)) (fun a ha => by
        rw [List.mem_filter] at ha
        have := h a ha.1
        have := ha.2
        simp at this
        omega)
      have e2 : (List.range n).map (fun i => (tr.filter (· ≠ n)).count i) = (List.range n).map (fun i => tr.count i) := by
        apply List.map_congr_left
        intro i hi
        rw [List.mem_range] at hi
        rw [List.count_filter]
        simp; omega
      rw [e2] at e
      rw [← e]
      have := List.length_eq_countP_add_countP (l := tr) (fun a => decide (a ≠ n))
      rw [this, List.countP_eq_length_filter]
      congr 1
      simp [List.count]
      apply List.countP_congr
      intro a _
      by_cases e : a = n <;> simp [e]
  exact key rs.length tr h

theorem sum_le_of {n : Nat} {f g : Nat → Nat} (h : ∀ i, i < n → f i ≤ g i) : ((List.range n).map f).sum ≤ ((List.range n).map g).sum := by
  induction n with
  | zero => exact Nat.le_refl _
  | succ n ih =>
    rw [List.range_succ, List.map_append, List.map_append, List.sum_append, List.sum_append]
    have a := ih (fun i hi => h i (by omega))
    have b := h n (by omega)
    simp
    omega
theorem total_range (rs : List Rn) : total rs = ((List.range rs.length).map (fun i => (rs[i]?.getD []).length)).sum := by
  unfold total
  congr 1
  apply List.ext_getElem
  · simp
  · intro i h1 h2
    simp at h1 h2 ⊢
    simp [h1]

theorem Tr.mem {rs : List Rn} {tr : List Nat} {got : Rn} (h : Tr rs tr got) : ∀ a ∈ tr, a < rs.length := by
  intro a ha
  obtain ⟨i, hi, rfl⟩ := List.getElem_of_mem ha
  exact (h.at' i hi).1
theorem Tr.count_le {rs : List Rn} {tr : List Nat} {got : Rn} (h : Tr rs tr got) (r : Nat) (hr : r < rs.length) : ∀ k, k ≤ tr.length → (tr.take k).count r ≤ rs[r].length := by
  intro k
  induction k with
  | zero => simp
  | succ k ih =>
    intro hk
    rw [List.take_succ_eq_append_getElem (by omega), count_snoc]
    have a := ih (by omega)
    split
    · rename_i e
      obtain ⟨hr', hp, _⟩ := h.at' k (by omega)
      simp only [e] at hp
      exact hp
    · omega
theorem Tr.le_total {rs : List Rn} {tr : List Nat} {got : Rn} (h : Tr rs tr got) : tr.length ≤ total rs := by
  rw [sum_counts tr rs h.mem, total_range]
  apply sum_le_of
  intro i hi
  have := h.count_le i hi tr.length (Nat.le_refl _)
  rw [List.take_length] at this
  simpa [hi] using this
theorem Tr.full {rs : List Rn} {tr : List Nat} {got : Rn} (h : Tr rs tr got) (hh : Heads rs tr []) : tr.length = total rs := by
  apply Nat.le_antisymm h.le_total
  rw [sum_counts tr rs h.mem, total_range]
  apply sum_le_of
  intro i hi
  rcases Nat.lt_or_ge (tr.count i) rs[i].length with hlt | hge
  · obtain ⟨a, ha, _⟩ := hh.all i hi hlt
    cases ha
  · simpa [hi] using hge

/-- each run rises -/
def Rises (rs : List Rn) : Prop := ∀ i (hi : i < rs.length) j (hj : j + 1 < rs[i].length), rs[i][j].1 ≤ rs[i][j + 1].1

/-- what is told last is no greater than the heads -/
def Last (tr : List Nat) (got : Rn) (xs : List Hd) : Prop := ∀ (k : Nat) (h : k + 1 = tr.length) (hg : k < got.length), ∀ y ∈ xs, got[k].1 < y.K ∨ (got[k].1 = y.K ∧ ((tr[k]'(by omega) : Nat) : Int) ≤ y.r)

/-- one thing told: x, the least head of run i -/
theorem tell_step {rs : List Rn} {tr : List Nat} {got : Rn} {x : Hd} {t : List Hd} (hT : Tr rs tr got) (hH : Heads rs tr (x :: t)) (hL : Last tr got (x :: t)) :
    ∃ i, hdAt rs i (tr.count i) x ∧ Tr rs (tr ++ [i]) (got ++ [(x.K, x.T)]) := by
  obtain ⟨i, hi⟩ := hH.ok x (by simp)
  refine ⟨i, hi, ?_⟩
  have hr := hi.r_eq
  obtain ⟨h1, h2, h3⟩ := hi
  have hl := hT.len
  refine ⟨by simp [hl], ?_, ?_⟩
  · intro j hj
    by_cases e : j < tr.length
    · obtain ⟨a, b, c⟩ := hT.at' j e
      have e1 : (tr ++ [i])[j] = tr[j] := List.getElem_append_left e
      have e2 : (tr ++ [i]).take j = tr.take j := by rw [List.take_append_of_le_length (by omega)]
      simp only [e1, e2]
      refine ⟨a, b, ?_⟩
      rw [List.getElem_append_left (by omega)]; exact c
    · have : j = tr.length := by simp at hj; omega
      subst this
      have e1 : (tr ++ [i])[tr.length] = i := by simp
      have e2 : (tr ++ [i]).take tr.length = tr := by simp
      simp only [e1, e2]
      refine ⟨h1, h2, ?_⟩
      rw [List.getElem_append_right (by omega)]
      simp [h3]
  · intro j hj
    by_cases e : j + 1 < tr.length
    · have := hT.ord j e
      rw [List.getElem_append_left (by omega), List.getElem_append_left (by omega), List.getElem_append_left (by omega), List.getElem_append_left (by omega)]
      exact this
    · have ej : j + 1 = tr.length := by simp at hj; omega
      have := hL j ej (by omega) x (by simp)
      rw [List.getElem_append_left (by omega), List.getElem_append_right (by omega), List.getElem_append_left (by omega), List.getElem_append_right (by omega)]
      simp
      rw [hr] at this
      omega

/-- what stands behind: the rest, and the run's next thing, if any -/
theorem heads_step {rs : List Rn} {tr : List Nat} {got : Rn} {x : Hd} {t : List Hd} (hR : Rises rs) (hH : Heads rs tr (x :: t)) (hl : got.length = tr.length) (hx : ∀ y ∈ t, leP x y) {i : Nat} (hi : hdAt rs i (tr.count i) x) :
    (∀ (h1 : i < rs.length), ¬ tr.count i + 1 < rs[i].length → Heads rs (tr ++ [i]) t ∧ Last (tr ++ [i]) (got ++ [(x.K, x.T)]) t) ∧
    (∀ (h1 : i < rs.length) (h2 : tr.count i + 1 < rs[i].length), Heads rs (tr ++ [i]) (⟨rs[i][tr.count i + 1].1, rs[i][tr.count i + 1].2, i, (tr.count i + 2 : Nat)⟩ :: t) ∧ Last (tr ++ [i]) (got ++ [(x.K, x.T)]) (⟨rs[i][tr.count i + 1].1, rs[i][tr.count i + 1].2, i, (tr.count i + 2 : Nat)⟩ :: t)) := by
  have hr := hi.r_eq
  have hnd := hH.nd
  rw [List.map_cons, List.nodup_cons] at hnd
  have hne : ∀ y ∈ t, ∀ j p, hdAt rs j p y → j ≠ i := by
    rintro y hy j p hj rfl
    exact hnd.1 (List.mem_map.2 ⟨y, hy, by rw [hj.r_eq, hr]⟩)
  have hok : ∀ y ∈ t, ∃ j, hdAt rs j ((tr ++ [i]).count j) y := by
    intro y hy
    obtain ⟨j, hj⟩ := hH.ok y (List.mem_cons_of_mem _ hy)
    refine ⟨j, ?_⟩
    rw [count_snoc, if_neg (fun e => hne y hy j _ hj e.symm)]
    exact hj
  have hlast : ∀ y, leP x y → x.K < y.K ∨ (x.K = y.K ∧ ((i : Nat) : Int) ≤ y.r) := by
    intro y hy
    unfold leP ltP at hy
    rw [hr] at hy
    omega
  have hL' : ∀ ys : List Hd, (∀ y ∈ ys, leP x y) → Last (tr ++ [i]) (got ++ [(x.K, x.T)]) ys := by
    intro ys hys k hk hg y hy
    have ek : k = tr.length := by simp at hk; omega
    subst ek
    have e1 : (got ++ [(x.K, x.T)])[tr.length] = (x.K, x.T) := by rw [List.getElem_append_right (by omega)]; simp
    have e2 : (tr ++ [i])[tr.length]'(by simp) = i := by simp
    rw [e1, e2]
    exact hlast y (hys y hy)
  refine ⟨fun h1 h2 => ⟨⟨hok, hnd.2, ?_⟩, hL' t hx⟩, fun h1 h2 => ⟨⟨?_, ?_, ?_⟩, hL' _ ?_⟩⟩
  · intro j hj hc
    rw [count_snoc] at hc ⊢
    by_cases e : i = j
    · subst e; rw [if_pos rfl] at hc; exact absurd hc h2
    · rw [if_neg e] at hc ⊢
      obtain ⟨a, ha, hb⟩ := hH.all j hj hc
      rcases List.mem_cons.1 ha with rfl | ha
      · exact absurd (by have := hb.r_eq; rw [hr] at this; omega) e
      · exact ⟨a, ha, hb⟩
  · intro y hy
    rcases List.mem_cons.1 hy with rfl | hy
    · refine ⟨i, ?_⟩
      rw [count_snoc, if_pos rfl]
      exact ⟨h1, h2, rfl⟩
    · exact hok y hy
  · rw [List.map_cons, List.nodup_cons]
    refine ⟨?_, hnd.2⟩
    have := hnd.1
    rw [hr] at this
    exact this
  · intro j hj hc
    rw [count_snoc] at hc ⊢
    by_cases e : i = j
    · subst e; rw [if_pos rfl]
      exact ⟨_, List.mem_cons_self, h1, h2, rfl⟩
    · rw [if_neg e] at hc ⊢
      obtain ⟨a, ha, hb⟩ := hH.all j hj hc
      rcases List.mem_cons.1 ha with rfl | ha
      · exact absurd (by have := hb.r_eq; rw [hr] at this; omega) e
      · exact ⟨a, List.mem_cons_of_mem _ ha, hb⟩
  · intro y hy
    rcases List.mem_cons.1 hy with rfl | hy
    · obtain ⟨_, h4, h5⟩ := hi
      have := hR i h1 (tr.count i) h2
      unfold leP ltP
      rw [h5]
      simp
      omega
    · exact hx y hy

/-- at the start -/
theorem firstN_heads (rs : List Rn) : ∀ n, n ≤ rs.length → (∀ h ∈ firstN rs n, ∃ i, i < n ∧ hdAt rs i 0 h) ∧ ((firstN rs n).map Hd.r).Nodup ∧ ∀ i (hi : i < rs.length), i < n → 0 < rs[i].length → ∃ h ∈ firstN rs n, hdAt rs i 0 h
  | 0, _ => ⟨fun h hh => (by cases hh), List.nodup_nil, fun i _ h => absurd h (Nat.not_lt_zero _)⟩
  | n + 1, hn => by
    obtain ⟨a, b, c⟩ := firstN_heads rs n (by omega)
    have hlt : n < rs.length := by omega
    rcases hr : rs[n] with _ | ⟨x, t⟩
    · have e : firstN rs (n + 1) = firstN rs n := by simp [firstN, List.getElem?_eq_getElem hlt, hr]
      rw [e]
      refine ⟨fun h hh => by obtain ⟨i, hi, hj⟩ := a h hh; exact ⟨i, by omega, hj⟩, b, fun i hi hin h0 => ?_⟩
      by_cases ei : i = n
      · subst ei; rw [hr] at h0; exact absurd h0 (Nat.lt_irrefl _)
      · exact c i hi (by omega) h0
    · have e : firstN rs (n + 1) = firstN rs n ++ [⟨x.1, x.2, n, 1⟩] := by simp [firstN, List.getElem?_eq_getElem hlt, hr]
      have hnew : hdAt rs n 0 ⟨x.1, x.2, n, 1⟩ := ⟨hlt, by simp [hr], by simp [hr]⟩
      rw [e]
      refine ⟨fun h hh => ?_, ?_, fun i hi hin h0 => ?_⟩
      · rcases List.mem_append.1 hh with hh | hh
        · obtain ⟨i, hi, hj⟩ := a h hh; exact ⟨i, by omega, hj⟩
        · rw [List.mem_singleton] at hh; subst hh; exact ⟨n, by omega, hnew⟩
      · rw [List.map_append, List.nodup_append]
        refine ⟨b, by simp, ?_⟩
        intro u hu v hv
        simp at hv
        subst hv
        obtain ⟨h, hh, rfl⟩ := List.mem_map.1 hu
        obtain ⟨i, hi, hj⟩ := a h hh
        rw [hj.r_eq]; omega
      · by_cases ei : i = n
        · subst ei; exact ⟨_, by simp, hnew⟩
        · obtain ⟨h, hh, hj⟩ := c i hi (by omega) h0
          exact ⟨h, List.mem_append_left _ hh, hj⟩
theorem heads_start (rs : List Rn) : Heads rs [] (firstN rs rs.length) := by
  obtain ⟨a, b, c⟩ := firstN_heads rs rs.length (Nat.le_refl _)
  exact ⟨fun h hh => by obtain ⟨i, _, hj⟩ := a h hh; exact ⟨i, by simpa using hj⟩, b, fun i hi h0 => by obtain ⟨h, hh, hj⟩ := c i hi hi (by simpa using h0); exact ⟨h, hh, by simpa using hj⟩⟩
theorem tr_start (rs : List Rn) : Tr rs [] [] := ⟨rfl, fun _ h => absurd h (Nat.not_lt_zero _), fun _ h => absurd h (Nat.not_lt_zero _)⟩
theorem last_start (xs : List Hd) : Last [] [] xs := fun k h => by simp at h
end Go.Proofs.YtibofakbhgmhiabGreatDoor
