import Derived.Test.YtibofakbhgmhiabGreatDoorCpy
namespace Go.Proofs.YtibofakbhgmhiabGreatDoor
open Go.RowKit

/-- what plain.Merge gathers: how many are wanted, the list, whether more came -/
structure YAt (B Nb Lv Mb : Nat) (n : Int) (lv : Value) (w : World) (xs : Rn) : Prop where
  nb : w.heap[Nb]? = some (.cells #[.int .i64 n] 3 (0, 0))
  lb : w.heap[Lv]? = some (.cells #[lv] 104 (0, 0))
  mb : w.heap[Mb]? = some (.cells #[.bool false] 4 (0, 0))
  own : w.ownsRow B 106 2 lv xs.length (rc xs)
theorem YAt.below {B Nb Lv Mb : Nat} {n : Int} {lv : Value} {w w' : World} {xs : Rn} (h : YAt B Nb Lv Mb n lv w xs) (hb : Below w.heap.size w w') : YAt B Nb Lv Mb n lv w' xs :=
  ⟨by rw [hb.block _ (lt_of_block h.nb)]; exact h.nb, by rw [hb.block _ (lt_of_block h.lb)]; exact h.lb, by rw [hb.block _ (lt_of_block h.mb)]; exact h.mb, hown_below h.own hb⟩
theorem own_ne {w : World} {B e s : Nat} {v : Value} {n : Nat} {xs : List Value} (h : w.ownsRow B e s v n xs) {b : Nat} {cs : Array Value} {t : TypeId} {fr : Nat × Nat} (hb : w.heap[b]? = some (.cells cs t fr)) (hne : e ≠ t) : v.ownBlock ≠ some b := by
  rcases h.2 with ⟨rfl, _⟩ | ⟨g, cap, cur, rfl, _, hg, _⟩
  · simp [Value.ownBlock]
  · intro ee
    simp only [Value.ownBlock, Option.some.injEq] at ee
    subst ee
    rw [hg] at hb
    simp only [Option.some.injEq, Obj.cells.injEq] at hb
    exact hne hb.2.1

set_option maxHeartbeats 2000000 in
set_option maxRecDepth 100000 in
theorem pyield {B Nb Lv Mb : Nat} {n : Int} {lv : Value} {w : World} {xs : Rn} (h : YAt B Nb Lv Mb n lv w xs) (k t : Int) (hn : n < 1 ∨ (xs.length : Int) < n) (hl : xs.length ≤ 1099511627776) (hB : B ≤ w.heap.size) :
    Calls Tryz.prog 77 #[.agg #[.int .i64 k, .int .i64 t], .pointer (some ⟨Nb, 0, none⟩), .pointer (some ⟨Lv, 0, none⟩), .pointer (some ⟨Mb, 0, none⟩)] w fun e w' =>
      e = .returned (.bool (decide (n < 1 ∨ ((xs.length : Int) + 1) < n))) ∧ (∃ lv', YAt B Nb Lv Mb n lv' w' (xs ++ [(k, t)]) ∧ (∀ i, lv'.ownBlock = some i → lv.ownBlock = some i ∨ w.heap.size ≤ i)) ∧ Kp (fun i => i = Lv ∨ lv.ownBlock = some i) w w' := by
  obtain ⟨i0, hi, hz0, hz1, hz2⟩ := info_parts Tryz.infoItem
  obtain ⟨ao, lc, rfl⟩ := hown_slice h.own
  have hb1 : Below w.heap.size w (w.alloc (.cells #[.int .i64 k, .int .i64 t] 106)) := (Below.refl _ _).alloc (Nat.le_refl _) _
  have hb2 : Below w.heap.size w ((w.alloc (.cells #[.int .i64 k, .int .i64 t] 106)).alloc (.cells #[.int .i64 k, .int .i64 t] 106)) := hb1.alloc (by simp) _
  have h1 := h.below hb1
  have h2 := h.below hb2
  have n1 := cell_of_one h1.nb
  have l1 := cell_of_one h1.lb
  have l2 := cell_of_one h2.lb
  have HO : Hid (((w.alloc (.cells #[.int .i64 k, .int .i64 t] 106)).alloc (.cells #[.int .i64 k, .int .i64 t] 106)).ownsRow B 106 2 (.slice ao xs.length lc) xs.length (rc xs)) := h2.own
  have HN : Hid (∀ (j : Nat) (u : Value), [Value.int .i64 k, .int .i64 t][j]? = some u → ((w.alloc (.cells #[.int .i64 k, .int .i64 t] 106)).alloc (.cells #[.int .i64 k, .int .i64 t] 106)).cell? ((⟨w.heap.size + 1, 0, none⟩ : Addr).add j) = some u) := by
    intro j u hj
    have e : (⟨w.heap.size + 1, 0, none⟩ : Addr).add j = ⟨(w.alloc (.cells #[.int .i64 k, .int .i64 t] 106)).heap.size, j, none⟩ := by rw [show (w.alloc (.cells #[.int .i64 k, .int .i64 t] 106)).heap.size = w.heap.size + 1 from by simp]; unfold Addr.add; split <;> simp_all
    rw [e, World.cell?_alloc_at _ _ _ _ (by simp)]
    rcases j with _ | _ | j
    · simpa using hj
    · simpa using hj
    · simp at hj
  have H1 : Hid (∀ u ∈ [Value.int .i64 k, .int .i64 t], u.oneCell' = true) := by
    intro u hu; simp at hu; rcases hu with rfl | rfl <;> rfl
  have HZ : Hid (((w.alloc (.cells #[.int .i64 k, .int .i64 t] 106)).alloc (.cells #[.int .i64 k, .int .i64 t] 106)).heap.size = w.heap.size + 2) := by show _ = _; simp
  have HK : Hid (∀ g cap w2, World.ownsRow w2 B 106 2 (.slice (some ⟨g, 0, none⟩) (xs.length + 1) cap) (xs.length + 1) (rc xs ++ [.int .i64 k, .int .i64 t]) → ((w.alloc (.cells #[.int .i64 k, .int .i64 t] 106)).alloc (.cells #[.int .i64 k, .int .i64 t] 106)).grownBy w2 (Value.slice ao xs.length lc).ownBlock →
      w2.cell? ⟨Lv, 0, none⟩ = some (.slice ao xs.length lc) ∧ w2.frozen? ⟨Lv, 0, none⟩ = false ∧ (w2.setCell ⟨Lv, 0, none⟩ (.slice (some ⟨g, 0, none⟩) (xs.length + 1) cap)).cell? ⟨Nb, 0, none⟩ = some (.int .i64 n) ∧
      YAt B Nb Lv Mb n (.slice (some ⟨g, 0, none⟩) (xs.length + 1) cap) (w2.setCell ⟨Lv, 0, none⟩ (.slice (some ⟨g, 0, none⟩) (xs.length + 1) cap)) (xs ++ [(k, t)]) ∧ Kp (fun i => i = Lv ∨ (Value.slice ao xs.length lc).ownBlock = some i) w (w2.setCell ⟨Lv, 0, none⟩ (.slice (some ⟨g, 0, none⟩) (xs.length + 1) cap))) := by
    intro g cap w2 ho hg
    have en := (hg.block Nb (lt_of_block h2.nb) (fun e => own_ne h2.own h2.nb (by decide) e.symm)).trans h2.nb
    have el := (hg.block Lv (lt_of_block h2.lb) (fun e => own_ne h2.own h2.lb (by decide) e.symm)).trans h2.lb
    have em := (hg.block Mb (lt_of_block h2.mb) (fun e => own_ne h2.own h2.mb (by decide) e.symm)).trans h2.mb
    have hNL : Nb ≠ Lv := by rintro rfl; rw [el] at en; simp at en
    have hML : Mb ≠ Lv := by rintro rfl; rw [el] at em; simp at em
    have yn := blk_setCell (j := 0) (v := .slice (some ⟨g, 0, none⟩) (xs.length + 1) cap) en hNL
    refine ⟨cell_of_one el, free_of_one el, cell_of_one yn, ⟨yn, one_setCell el, blk_setCell em hML, ?_⟩, ?_⟩
    · rw [List.length_append, rc_append]
      exact ownsRow_setCell_other ho (own_ne ho el (by decide)) _
    · refine Kp.setCell ?_ (fun _ => .inl rfl) _
      exact (Kp.of_below hb2).trans (Kp.of_grown (P := fun i => i = Lv ∨ (Value.slice ao xs.length lc).ownBlock = some i) hg (fun i hi => .inr hi)) (fun _ _ e => e)
  clear h1 h2 hb1 hb2 h
  by_cases hn1 : n < 1
  · have hd : decide ((0 : Int) < n) = false := by simp; omega
    go_enter Tryz.func77, Tryz.ntmps77
    go_wp2_with (at_builtin; refine wpList_append_lies _ rfl (.tmp 14) (.tmp 16) 104 rfl B 106 i0 (.agg #[.int .i64 0, .int .i64 0]) 2 16 Tryz.underlying104 hi hz0 hz1 hz2 rfl (by decide) (.slice ao xs.length lc) xs.length (rc xs) rfl HO.out ⟨w.heap.size + 1, 0, none⟩ 1 1 [.int .i64 k, .int .i64 t] rfl rfl HN.out H1.out (by decide) (by unfold maxLen; omega) (by omega) (by rw [HZ.out]; omega) (w.heap.size + 2) HZ.out ?_; intro g cap w2 hown2 hg2 hgg hlt2; obtain ⟨d1, d2, d3, d4, d5⟩ := HK.out g cap w2 hown2 hg2)
    go_ret
    refine ⟨by simp [hn1], ⟨_, d4, fun i hi => ?_⟩, d5⟩
    simp only [Value.ownBlock, Option.some.injEq] at hi
    subst hi
    rcases hgg with hgg | hgg
    · exact .inl hgg
    · exact .inr (by omega)
  · have hp : (0 : Int) < n := by omega
    have hq : ((xs.length : Int) == n) = false := by simp; omega
    have hq2 : ¬ (xs.length : Int) = n := by omega
    have hd : decide (n < (1 : Int)) = false := by simp; omega
    go_enter Tryz.func77, Tryz.ntmps77
    go_wp2_with (at_builtin; refine wpList_append_lies _ rfl (.tmp 14) (.tmp 16) 104 rfl B 106 i0 (.agg #[.int .i64 0, .int .i64 0]) 2 16 Tryz.underlying104 hi hz0 hz1 hz2 rfl (by decide) (.slice ao xs.length lc) xs.length (rc xs) rfl HO.out ⟨w.heap.size + 1, 0, none⟩ 1 1 [.int .i64 k, .int .i64 t] rfl rfl HN.out H1.out (by decide) (by unfold maxLen; omega) (by omega) (by rw [HZ.out]; omega) (w.heap.size + 2) HZ.out ?_; intro g cap w2 hown2 hg2 hgg hlt2; obtain ⟨d1, d2, d3, d4, d5⟩ := HK.out g cap w2 hown2 hg2)
    go_ret
    refine ⟨by simp, ⟨_, d4, fun i hi => ?_⟩, d5⟩
    simp only [Value.ownBlock, Option.some.injEq] at hi
    subst hi
    rcases hgg with hgg | hgg
    · exact .inl hgg
    · exact .inr (by omega)
end Go.Proofs.YtibofakbhgmhiabGreatDoor
