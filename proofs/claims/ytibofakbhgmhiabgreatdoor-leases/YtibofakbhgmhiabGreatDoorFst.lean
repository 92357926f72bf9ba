import Derived.Test.YtibofakbhgmhiabGreatDoorHp9
namespace Go.Proofs.YtibofakbhgmhiabGreatDoor
open Go.RowKit

abbrev Rn := List (Int × Int)
/-- runs that lie somewhere -/
def RunsAt (w : World) (v : Value) (rs : List Rn) : Prop :=
  ∃ a c, v = .slice a rs.length c ∧ ∀ i (h : i < rs.length), ∃ b, a = some ⟨b, 0, none⟩ ∧ ∃ ai ci, (ai = none → ci = 0) ∧ w.cell? ⟨b, i, none⟩ = some (.slice ai rs[i].length ci) ∧
    ∀ j (hj : j < rs[i].length), ∃ bi, ai = some ⟨bi, 0, none⟩ ∧ w.cell? ⟨bi, j * 2, none⟩ = some (.int .i64 rs[i][j].1) ∧ w.cell? ⟨bi, j * 2 + 1, none⟩ = some (.int .i64 rs[i][j].2)
theorem RunsAt.below {w w' : World} {v : Value} {rs : List Rn} (h : RunsAt w v rs) (hb : Below w.heap.size w w') : RunsAt w' v rs := by
  obtain ⟨a, c, rfl, hc⟩ := h
  refine ⟨a, c, rfl, fun i hi => ?_⟩
  obtain ⟨b, rfl, ai, ci, h0, h1, h2⟩ := hc i hi
  refine ⟨b, rfl, ai, ci, h0, (hb.cell (hp_lt h1)).trans h1, fun j hj => ?_⟩
  obtain ⟨bi, rfl, h3, h4⟩ := h2 j hj
  exact ⟨bi, rfl, (hb.cell (hp_lt h3)).trans h3, (hb.cell (hp_lt h4)).trans h4⟩

def firstN (rs : List Rn) : Nat → List Hd
  | 0 => []
  | n + 1 => firstN rs n ++ (match rs[n]? with | some (x :: _) => [⟨x.1, x.2, n, 1⟩] | _ => [])
theorem firstN_le (rs : List Rn) : ∀ n, (firstN rs n).length ≤ n
  | 0 => Nat.le_refl _
  | n + 1 => by
    have := firstN_le rs n
    simp only [firstN, List.length_append]
    split <;> simp <;> omega

theorem hown_slice {w : World} {B : Nat} {e : TypeId} {size : Nat} {v : Value} {n : Nat} {xs : List Value} (h : w.ownsRow B e size v n xs) : ∃ ao c, v = .slice ao n c := by
  rcases h.2 with ⟨rfl, hn⟩ | ⟨g, cap, cur, rfl, _⟩
  · exact ⟨none, 0, by rw [hn]⟩
  · exact ⟨_, _, rfl⟩

set_option maxHeartbeats 2000000 in
set_option maxRecDepth 100000 in
theorem firstHeads (w : World) (v : Value) (rs : List Rn) (ho : RunsAt w v rs) (hn : rs.length ≤ 1048576) :
    Calls Tryz.prog 232 #[v] w fun e w' => ∃ hv, e = .returned hv ∧ w'.ownsRow w.heap.size 384 4 hv (firstN rs rs.length).length (hc (firstN rs rs.length)) ∧ Below w.heap.size w w' := by
  obtain ⟨i0, hi, hz0, hz1, hz2⟩ := info_parts Tryz.infoHead
  obtain ⟨a, c, rfl, hcell⟩ := ho
  go_enter Tryz.func232, Tryz.ntmps232
  go_wp2_with fail
  go_loopw [3, 8] (fun hv k wr => ∃ j : Nat, j ≤ rs.length ∧ k = .int .i64 j ∧ wr.ownsRow w.heap.size 384 4 hv (firstN rs j).length (hc (firstN rs j)) ∧ Below w.heap.size w wr) (fun _ k _ => rs.length - (intOf k).toNat)
  case atStart => exact ⟨0, Nat.zero_le _, rfl, World.ownsRow_nil _ _ _ _, Below.refl _ _⟩
  case round =>
    obtain ⟨j, hj, rfl, hown, hb⟩ := hrel
    by_cases hjl : j < rs.length
    · obtain ⟨b, rfl, ai, ci, h0, h1, h2⟩ := hcell j hjl
      have e1 := (hb.cell (p := ⟨b, j, none⟩) (hp_lt h1)).trans h1
      have hle := firstN_le rs j
      have hsz := hb.size
      rcases hr : rs[j] with _ | ⟨x, t⟩
      · have HF : Hid (firstN rs (j + 1) = firstN rs j) := by show _ = _; simp [firstN, List.getElem?_eq_getElem hjl, hr]
        rw [hr] at e1
        simp only [List.length_nil] at e1
        clear h0 h1 h2 hcell hr
        go_wp2
        go_roundw
        case rel => exact ⟨j + 1, by omega, by go_num, by rw [HF.out]; exact hown, hb⟩
        case measure => simp [intOf]; omega
      · have HF : Hid (firstN rs (j + 1) = firstN rs j ++ [⟨x.1, x.2, j, 1⟩]) := by show _ = _; simp [firstN, List.getElem?_eq_getElem hjl, hr]
        obtain ⟨bi, hai, h3, h4⟩ := h2 0 (by simp [hr])
        subst hai
        have e3 : wr.cell? ⟨bi, 0, none⟩ = some (.int .i64 x.1) := by have := (hb.cell (hp_lt h3)).trans h3; simpa [hr] using this
        have e4 : wr.cell? ⟨bi, 1, none⟩ = some (.int .i64 x.2) := by have := (hb.cell (hp_lt h4)).trans h4; simpa [hr] using this
        rw [hr] at e1
        simp only [List.length_cons] at e1
        obtain ⟨x1, x2⟩ := x
        simp only at e3 e4
        have hgt : (0 : Int) < (t.length : Int) + 1 := by omega
        clear h0 h1 h2 h3 h4 hcell hr
        go_wp2_with (at_builtin; refine wpList_append_own _ rfl (.tmp 16) (.tmp 22) 387 rfl w.heap.size 384 i0 (.agg #[.int .i64 0, .int .i64 0, .int .i64 0, .int .i64 0]) 4 32 Tryz.underlying387 hi hz0 hz1 hz2 rfl (by decide) _ _ _ rfl (hown.alloc _) ⟨wr.heap.size, 0, none⟩ 1 1 [.int .i64 x1, .int .i64 x2, .int .i64 j, .int .i64 1] rfl rfl ?c1 ?c2 ?c3 ?c4 ?c5 ?_)
        case c2 => exact ⟨rfl, rfl, rfl, rfl⟩
        case c3 => unfold maxLen; omega
        case c4 => omega
        case c5 => omega
        intro v1 w1 hown1 hg1 _
        have hb1 : Below w.heap.size w w1 := (hb.alloc hsz _).grown hg1 (by simp; omega) (fun k hk => (hown.lt k hk).1)
        have hown2 : w1.ownsRow w.heap.size 384 4 v1 (firstN rs (j + 1)).length (hc (firstN rs (j + 1))) := by
          rw [HF.out, hc_append, List.length_append]; exact hown1
        clear hown1 hg1 hown hb e1 e3 e4
        go_wp2
        go_roundw
        case rel => exact ⟨j + 1, by omega, by go_num, hown2, hb1⟩
        case measure => simp [intOf]; omega
    · have : j = rs.length := by omega
      subst this
      obtain ⟨ao, cc, rfl⟩ := hown_slice hown
      go_wp2
      go_ret
      exact ⟨_, rfl, hown, hb⟩
end Go.Proofs.YtibofakbhgmhiabGreatDoor
