import Derived.Test.YtibofakbhgmhiabGreatDoorFst
import Derived.Laws.AppendOwnNone
import Derived.WalkSpells
namespace Go.Proofs.YtibofakbhgmhiabGreatDoor
open Go.RowKit
theorem Tryz.infoItem : (Tryz.prog.info? 106).map (fun i => (i.zero, i.size, i.bytes)) = some (some (.agg #[.int .i64 0, .int .i64 0]), 2, 16) := by kernel_rfl

/-- the cells of a run -/
def rc : Rn → List Value
  | [] => []
  | x :: t => .int .i64 x.1 :: .int .i64 x.2 :: rc t
theorem rc_length : ∀ l, (rc l).length = l.length * 2
  | [] => rfl
  | h :: t => by simp [rc, rc_length t]; omega
theorem rc_append : ∀ a b, rc (a ++ b) = rc a ++ rc b
  | [], b => rfl
  | h :: t, b => by simp [rc, rc_append t b]
theorem rc_at : ∀ (l : Rn) (j : Nat) (h : j < l.length), (rc l)[j * 2]? = some (.int .i64 l[j].1) ∧ (rc l)[j * 2 + 1]? = some (.int .i64 l[j].2)
  | [], j, h => absurd h (Nat.not_lt_zero _)
  | p :: ps, 0, _ => ⟨rfl, rfl⟩
  | p :: ps, j + 1, h => by
    have := rc_at ps j (by simpa using h)
    rw [show (j + 1) * 2 = j * 2 + 2 from by omega]
    exact ⟨by simpa [rc] using this.1, by simpa [rc] using this.2⟩
theorem rc_one : ∀ (l : Rn), ∀ u ∈ rc l, u.oneCell' = true
  | [], u, h => by cases h
  | p :: ps, u, h => by
    simp [rc] at h
    rcases h with rfl | rfl | h
    · rfl
    · rfl
    · exact rc_one ps u h

/-- a run that lies somewhere -/
def RunAt (w : World) (a : Option Addr) (r : Rn) : Prop :=
  ∀ j (hj : j < r.length), ∃ b, a = some ⟨b, 0, none⟩ ∧ w.cell? ⟨b, j * 2, none⟩ = some (.int .i64 r[j].1) ∧ w.cell? ⟨b, j * 2 + 1, none⟩ = some (.int .i64 r[j].2)
theorem RunAt.cells {w : World} {b : Nat} {r : Rn} (h : RunAt w (some ⟨b, 0, none⟩) r) : ∀ (j : Nat) (u : Value), (rc r)[j]? = some u → w.cell? ((⟨b, 0, none⟩ : Addr).add j) = some u := by
  intro j u hj
  have e : (⟨b, 0, none⟩ : Addr).add j = ⟨b, j, none⟩ := by unfold Addr.add; split <;> simp_all
  rw [e]
  have hl : j < (rc r).length := (List.getElem?_eq_some_iff.1 hj).1
  rw [rc_length] at hl
  obtain ⟨b', e', c0, c1⟩ := h (j / 2) (by omega)
  simp only [Option.some.injEq, Addr.mk.injEq, and_true] at e'
  subst e'
  have a := rc_at r (j / 2) (by omega)
  rcases Nat.mod_two_eq_zero_or_one j with hm | hm
  · have ej : j / 2 * 2 = j := by omega
    rw [ej] at c0 a
    rw [c0, ← a.1]; exact hj
  · have ej : j / 2 * 2 + 1 = j := by omega
    rw [ej] at c1 a
    rw [c1, ← a.2]; exact hj

set_option maxHeartbeats 1000000 in
set_option maxRecDepth 100000 in
theorem iclone (w : World) (a : Option Addr) (c : Nat) (r : Rn) (h : RunAt w a r) (hn : r.length ≤ 1048576) (hnil : a = none → c = 0) :
    Calls Tryz.prog 229 #[.slice a r.length c] w fun e w' => ∃ v', e = .returned v' ∧ w'.ownsRow w.heap.size 106 2 v' r.length (rc r) ∧ Below w.heap.size w w' := by
  obtain ⟨i0, hi, hz0, hz1, hz2⟩ := info_parts Tryz.infoItem
  have qN : ∀ (W : World) (x : Option Addr) (n k n' k' : Nat), (binOp .eql 104 (.slice x n k) (.slice none n' k')).run Tryz.prog W = .ok (.bool x.isNone) W := fun W x n k n' k' => Lib.run_eql_slice_nil W 104 _ x n k n' k' Tryz.underlying104
  rcases a with _ | a
  · have hr : r = [] := by
      rcases r with _ | ⟨x, t⟩
      · rfl
      · obtain ⟨b, e, _⟩ := h 0 (by simp); cases e
    subst hr
    obtain rfl := hnil rfl
    go_enter Tryz.func229, Tryz.ntmps229
    go_wp2
    go_ret
    exact ⟨_, rfl, World.ownsRow_nil _ _ _ _, Below.refl _ _⟩
  · have hmade := World.ownsRow_made (base := w.heap.size) (e := 106) (size := 2) w #[] 0 (Nat.le_refl _) (by decide) rfl
    have hnews : ∀ (j : Nat) (u : Value), (rc r)[j]? = some u → (w.alloc (.cells #[] 106)).cell? (a.add j) = some u := by
      intro j u hj
      have hl : j < (rc r).length := (List.getElem?_eq_some_iff.1 hj).1
      rw [rc_length] at hl
      obtain ⟨b, e, _⟩ := h 0 (by omega)
      simp only [Option.some.injEq] at e
      subst e
      have h2 := h.cells j u hj
      exact (World.cell?_alloc_lt w _ _ (hp_lt h2)).trans h2
    go_enter Tryz.func229, Tryz.ntmps229
    go_wp2_with (at_builtin; refine wpList_append_own _ rfl (.tmp 5) (.tmp 6) 104 rfl w.heap.size 106 i0 (.agg #[.int .i64 0, .int .i64 0]) 2 16 Tryz.underlying104 hi hz0 hz1 hz2 rfl (by decide) _ _ _ rfl hmade a r.length c (rc r) rfl (rc_length r) hnews (rc_one r) ?c3 ?c4 ?c5 ?_)
    case c3 => unfold maxLen; omega
    case c4 => omega
    case c5 => simp
    intro v1 w1 hown1 hg1 _
    have hb1 : Below w.heap.size w w1 := ((Below.refl _ _).alloc (Nat.le_refl _) _).grown hg1 (by simp) (fun k hk => by simp [Value.ownBlock] at hk; omega)
    have hown2 : w1.ownsRow w.heap.size 106 2 v1 r.length (rc r) := by simpa using hown1
    obtain ⟨ao, cc, rfl⟩ := hown_slice hown2
    clear hown1 hg1 hnews hmade h
    go_wp2
    go_ret
    exact ⟨_, rfl, hown2, hb1⟩
end Go.Proofs.YtibofakbhgmhiabGreatDoor
