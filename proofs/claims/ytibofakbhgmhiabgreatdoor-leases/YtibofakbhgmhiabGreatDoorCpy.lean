import Derived.Test.YtibofakbhgmhiabGreatDoorCln
namespace Go.Proofs.YtibofakbhgmhiabGreatDoor
open Go.RowKit
theorem Tryz.infoItems : (Tryz.prog.info? 104).map (fun i => (i.zero, i.size, i.bytes)) = some (some (.slice none 0 0), 1, 24) := by kernel_rfl

theorem row_other {w : World} {B e e' s : Nat} {v : Value} {n : Nat} {xs : List Value} {G c : Nat} {m s' : Nat} {ys : List Value} (h : w.ownsRow B e s v n xs) (k : w.ownsRow B e' s' (.slice (some ⟨G, 0, none⟩) m c) m ys) (hne : e ≠ e') : v.ownBlock ≠ some G := by
  rcases h.2 with ⟨rfl, _⟩ | ⟨g, cap, cur, rfl, _, hg, _⟩
  · simp [Value.ownBlock]
  · rcases k.2 with ⟨hx, _⟩ | ⟨g', cap', cur', hv, _, hg', _⟩
    · cases hx
    · simp only [Value.slice.injEq, Option.some.injEq, Addr.mk.injEq] at hv
      obtain ⟨⟨rfl, _, _⟩, _, rfl⟩ := hv
      intro ee
      simp only [Value.ownBlock, Option.some.injEq] at ee
      subst ee
      rw [hg] at hg'
      simp only [Option.some.injEq, Obj.cells.injEq] at hg'
      exact hne hg'.2.1
theorem own_kp {w w' : World} {P : Nat → Prop} {B : Nat} {e : TypeId} {size : Nat} {v : Value} {n : Nat} {xs : List Value} (h : w.ownsRow B e size v n xs) (hk : Kp P w w') (hp : ∀ i, B ≤ i → ¬ P i) : w'.ownsRow B e size v n xs := by
  obtain ⟨h1, h2⟩ := h
  refine ⟨h1, ?_⟩
  rcases h2 with h2 | ⟨g, cap, cur, hv, hg, hh, r⟩
  · exact Or.inl h2
  · exact Or.inr ⟨g, cap, cur, hv, hg, by rw [hk.block _ (lt_of_block hh) (hp g hg)]; exact hh, r⟩
theorem own_kp' {w w' : World} {P : Nat → Prop} {B : Nat} {e : TypeId} {size : Nat} {v : Value} {n : Nat} {xs : List Value} (h : w.ownsRow B e size v n xs) (hk : Kp P w w') (hp : ∀ i, v.ownBlock = some i → ¬ P i) : w'.ownsRow B e size v n xs := by
  obtain ⟨h1, h2⟩ := h
  refine ⟨h1, ?_⟩
  rcases h2 with h2 | ⟨g, cap, cur, rfl, hg, hh, r⟩
  · exact Or.inl h2
  · exact Or.inr ⟨g, cap, cur, rfl, hg, by rw [hk.block _ (lt_of_block hh) (hp g rfl)]; exact hh, r⟩
/-- runs that lie where nothing but what P names will change -/
def RunsSt (P : Nat → Prop) (w : World) (v : Value) (rs : List Rn) : Prop :=
  ∃ a c, v = .slice a rs.length c ∧ ∀ i (h : i < rs.length), ∃ b, a = some ⟨b, 0, none⟩ ∧ ∃ ai ci, (ai = none → ci = 0) ∧ (∀ w', Kp P w w' → w'.cell? ⟨b, i, none⟩ = some (.slice ai rs[i].length ci)) ∧
    ∀ j (hj : j < rs[i].length), ∃ bi, ai = some ⟨bi, 0, none⟩ ∧ ∀ w', Kp P w w' → w'.cell? ⟨bi, j * 2, none⟩ = some (.int .i64 rs[i][j].1) ∧ w'.cell? ⟨bi, j * 2 + 1, none⟩ = some (.int .i64 rs[i][j].2)
theorem RunsSt.at {P : Nat → Prop} {w w' : World} {v : Value} {rs : List Rn} (h : RunsSt P w v rs) (hk : Kp P w w') : RunsAt w' v rs := by
  obtain ⟨a, c, rfl, hc⟩ := h
  refine ⟨a, c, rfl, fun i hi => ?_⟩
  obtain ⟨b, rfl, ai, ci, h0, h1, h2⟩ := hc i hi
  refine ⟨b, rfl, ai, ci, h0, h1 w' hk, fun j hj => ?_⟩
  obtain ⟨bi, rfl, h3⟩ := h2 j hj
  exact ⟨bi, rfl, h3 w' hk⟩
theorem RunsSt.on {P Q : Nat → Prop} {w w1 : World} {v : Value} {rs : List Rn} (h : RunsSt P w v rs) (hk : Kp P w w1) (hq : ∀ i, i < w.heap.size → Q i → P i) : RunsSt Q w1 v rs := by
  obtain ⟨a, c, rfl, hc⟩ := h
  refine ⟨a, c, rfl, fun i hi => ?_⟩
  obtain ⟨b, rfl, ai, ci, h0, h1, h2⟩ := hc i hi
  refine ⟨b, rfl, ai, ci, h0, fun w' k => h1 w' (hk.trans k hq), fun j hj => ?_⟩
  obtain ⟨bi, rfl, h3⟩ := h2 j hj
  exact ⟨bi, rfl, fun w' k => h3 w' (hk.trans k hq)⟩
/-- the first j runs are copied -/
def Copied (w : World) (B : Nat) (vs : List Value) (rs : List Rn) (j : Nat) : Prop := ∀ i (h : i < rs.length), i < j → ∃ v, vs[i]? = some v ∧ w.ownsRow B 106 2 v rs[i].length (rc rs[i])
theorem run_of_own {w : World} {B : Nat} {v : Value} {r : Rn} (h : w.ownsRow B 106 2 v r.length (rc r)) : ∃ a c, v = .slice a r.length c ∧ (a = none → c = 0) ∧ RunAt w a r := by
  have h' := h
  rcases h.2 with ⟨rfl, hn⟩ | ⟨g, cap, cur, rfl, _⟩
  · exact ⟨none, 0, by rw [hn], fun _ => rfl, fun j hj => by omega⟩
  · refine ⟨some ⟨g, 0, none⟩, cap, rfl, (fun e => by cases e), fun j hj => ⟨g, rfl, ?_⟩⟩
    have a := rc_at r j hj
    exact ⟨(h'.cellAt _ (by omega)).trans a.1, (h'.cellAt _ (by omega)).trans a.2⟩

set_option maxHeartbeats 2000000 in
set_option maxRecDepth 100000 in
theorem copyRuns (w : World) (v : Value) (rs : List Rn) (ho : RunsAt w v rs) (hn : rs.length ≤ 1048576) (hr : ∀ r ∈ rs, r.length ≤ 1048576) :
    Calls Tryz.prog 148 #[v] w fun e w' => ∃ v', e = .returned v' ∧ RunsSt (· < w.heap.size) w' v' rs ∧ Below w.heap.size w w' := by
  obtain ⟨i0, hi, hz0, hz1, hz2⟩ := info_parts Tryz.infoItems
  obtain ⟨a, c, rfl, hcell⟩ := ho
  obtain ⟨w0, hrun, hown0, hg0⟩ := run_make_full (P := Tryz.prog) w w.heap.size 103 104 i0 (.slice none 0 0) 1 Tryz.underlying103 hi hz0 hz1 .i64 .i64 rs.length (by rw [hz2]; omega) (by unfold maxLen; omega) (Nat.le_refl _)
  have hb0 : Below w.heap.size w w0 := (Below.refl _ _).grown hg0 (Nat.le_refl _) (fun k hk => by cases hk)
  go_enter Tryz.func148, Tryz.ntmps148
  go_wp2_with fail
  go_loopw [11] (fun k wr => ∃ (j : Nat) (vs : List Value), j ≤ rs.length ∧ k = .int .i64 j ∧ wr.ownsRow w.heap.size 104 1 (.slice (some ⟨w.heap.size, 0, none⟩) rs.length rs.length) rs.length vs ∧ Copied wr w.heap.size vs rs j ∧ Below w.heap.size w wr) (fun k _ => rs.length - (intOf k).toNat)
  case atStart => exact ⟨0, _, Nat.zero_le _, rfl, hown0, fun i _ h => absurd h (Nat.not_lt_zero _), hb0⟩
  case round =>
    obtain ⟨j, vs, hj, rfl, hown, hcp, hb⟩ := hrel
    have hvl : vs.length = rs.length := by have := hown.1; omega
    by_cases hjl : j < rs.length
    · obtain ⟨b, rfl, ai, ci, h0, h1, h2⟩ := hcell j hjl
      have e1 := (hb.cell (p := ⟨b, j, none⟩) (hp_lt h1)).trans h1
      have hra : RunAt wr ai rs[j] := fun i hi => by
        obtain ⟨bi, e, c0, c1⟩ := h2 i hi
        exact ⟨bi, e, (hb.cell (hp_lt c0)).trans c0, (hb.cell (hp_lt c1)).trans c1⟩
      have HC : Hid (Calls Tryz.prog 229 #[.slice ai rs[j].length ci] wr fun e w' => ∃ a' c', e = .returned (.slice a' rs[j].length c') ∧ w'.cell? ⟨w.heap.size, j, none⟩ = wr.cell? ⟨w.heap.size, j, none⟩ ∧ w'.frozen? ⟨w.heap.size, j, none⟩ = false ∧
          (∃ vs, (w'.setCell ⟨w.heap.size, j, none⟩ (.slice a' rs[j].length c')).ownsRow w.heap.size 104 1 (.slice (some ⟨w.heap.size, 0, none⟩) rs.length rs.length) rs.length vs ∧ Copied (w'.setCell ⟨w.heap.size, j, none⟩ (.slice a' rs[j].length c')) w.heap.size vs rs (j + 1)) ∧ Below w.heap.size w (w'.setCell ⟨w.heap.size, j, none⟩ (.slice a' rs[j].length c'))) := by
        refine (iclone wr ai ci rs[j] hra (hr _ (List.getElem_mem _)) h0).mono ?_
        rintro e w1 ⟨v', rfl, ho1, hb1⟩
        obtain ⟨a', c', rfl⟩ := hown_slice ho1
        have hG : w.heap.size < wr.heap.size := (hown.lt w.heap.size rfl).2
        have o1 := hown_below hown hb1
        have hw : w.heap.size ≤ wr.heap.size := hb.size
        have ho2 : w1.ownsRow w.heap.size 106 2 (.slice a' rs[j].length c') rs[j].length (rc rs[j]) := by
          refine ⟨ho1.1, ?_⟩
          rcases ho1.2 with h | ⟨g, cap, cur, hv, hg, r⟩
          · exact .inl h
          · exact .inr ⟨g, cap, cur, hv, by omega, r⟩
        refine ⟨a', c', rfl, hb1.cell (p := ⟨w.heap.size, j, none⟩) hG, o1.frozenAt j, ⟨vs.set j (.slice a' rs[j].length c'), (o1.stored j _).1, ?_⟩, (hb.trans (hb1.mono hw)).setCell (p := ⟨w.heap.size, j, none⟩) (Nat.le_refl _) _⟩
        intro i hi hij
        by_cases hji : i = j
        · subst hji
          exact ⟨_, by simp [hvl, hi], ownsRow_setCell_other ho2 (row_other ho2 o1 (by decide)) _⟩
        · obtain ⟨u, hu, hou⟩ := hcp i hi (by omega)
          have hou1 := hown_below hou hb1
          exact ⟨u, by rw [List.getElem?_set_ne (by omega)]; exact hu, ownsRow_setCell_other hou1 (row_other hou1 o1 (by decide)) _⟩
      obtain ⟨uj, huj⟩ : ∃ u, wr.cell? ⟨w.heap.size, j, none⟩ = some u := ⟨vs[j], by rw [hown.cellAt j (by omega)]; simp [hvl, hjl]⟩
      clear hcp hown hcell h1 h2 hra hr hown0 hg0 hrun
      generalize rs[j].length = rl at *
      go_wp2_with (go_at_call 229; refine HC.out.mono ?_; rintro e w1 ⟨a', c', rfl, d1, d2, d3, d4⟩; rw [huj] at d1)
      go_roundw
      case rel => obtain ⟨vs', p1, p2⟩ := d3; exact ⟨j + 1, vs', by omega, by go_num, p1, p2, d4⟩
      case measure => simp [intOf]; omega
    · have : j = rs.length := by omega
      subst this
      go_wp2
      go_ret
      refine ⟨_, rfl, ⟨_, _, rfl, fun i hi => ⟨w.heap.size, rfl, ?_⟩⟩, hb⟩
      obtain ⟨u, hu, hou⟩ := hcp i hi hi
      have hcl : ∀ w2, Kp (· < w.heap.size) wr w2 → w2.cell? ⟨w.heap.size, i, none⟩ = some u := fun w2 hk2 => by rw [(own_kp hown hk2 (fun i h1 h2 => by omega)).cellAt i (by omega)]; exact hu
      rcases hou.2 with ⟨rfl, hn0⟩ | ⟨g, cap, cur, rfl, _⟩
      · exact ⟨none, 0, fun _ => rfl, fun w2 hk2 => by rw [hcl w2 hk2, hn0], fun j hj => by omega⟩
      · refine ⟨some ⟨g, 0, none⟩, cap, (fun e => by cases e), hcl, fun j hj => ⟨g, rfl, fun w2 hk2 => ?_⟩⟩
        have o2 := own_kp hou hk2 (fun i h1 h2 => by omega)
        have a := rc_at rs[i] j hj
        exact ⟨(o2.cellAt _ (by omega)).trans a.1, (o2.cellAt _ (by omega)).trans a.2⟩
end Go.Proofs.YtibofakbhgmhiabGreatDoor
