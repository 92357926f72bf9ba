import Derived.Test.YtibofakbhgmhiabGreatDoorLsA
namespace Go.Proofs.YtibofakbhgmhiabGreatDoor
open Go.RowKit

theorem aest (a : At) (now : Int) (w : World) : Calls Tryz.prog 245 #[.agg #[.int .i64 a.id, .int .i64 a.far, .int .i64 a.gr, .int .i64 a.hd], .int .i64 now] w fun e w' => (∃ x : Int, e = .returned (.int .i64 x)) ∧ Below w.heap.size w w' := by
  have hb : Below w.heap.size w (w.alloc (.cells #[.int .i64 a.id, .int .i64 a.far, .int .i64 a.gr, .int .i64 a.hd] 283)) := (Below.refl _ _).alloc (Nat.le_refl _) _
  obtain ⟨i, f, g, h⟩ := a
  simp only at hb ⊢
  go_enter Tryz.func245, Tryz.ntmps245
  go_wp2
  all_goals go_ret
  all_goals exact ⟨⟨_, rfl⟩, hb⟩

/-- may a backup be granted at the task? -/
def Tk.mayB (cf : Cf) (t : Tk) : Bool := !t.done && (decide ((t.live.length : Int) ≤ cf.bck) && decide ((t.gr : Int) < cf.att))
set_option maxHeartbeats 1000000 in
theorem mayBackUp {B Tb : Nat} {st : Int} {cf : Cf} {w : World} {bk : Bk} {tv : Value} {vs : List Value} (h : TbAt B Tb st cf w bk tv vs) (t : Tk) (a : Option Addr) (c : Nat) :
    Calls Tryz.prog 167 #[.pointer (some ⟨Tb, 2, none⟩), .agg #[.bool t.done, .int .i64 t.gr, .slice a t.live.length c]] w fun e w' => e = .returned (.bool (t.mayB cf)) ∧ Below w.heap.size w w' := by
  have hb : Below w.heap.size w (w.alloc (.cells #[.bool t.done, .int .i64 t.gr, .slice a t.live.length c] 205)) := (Below.refl _ _).alloc (Nat.le_refl _) _
  have h1 := h.below hb
  have c6 : (w.alloc (.cells #[.bool t.done, .int .i64 t.gr, .slice a t.live.length c] 205)).cell? ⟨Tb, 6, none⟩ = some (.int .i64 cf.bck) := by simp [World.cell?, h1.blk]
  have c5 : (w.alloc (.cells #[.bool t.done, .int .i64 t.gr, .slice a t.live.length c] 205)).cell? ⟨Tb, 5, none⟩ = some (.int .i64 cf.att) := by simp [World.cell?, h1.blk]
  have hM : t.mayB cf = (!t.done && (decide ((t.live.length : Int) ≤ cf.bck) && decide ((t.gr : Int) < cf.att))) := rfl
  rw [hM]
  clear h h1 hM
  obtain ⟨d, g, l⟩ := t
  simp only at hb c5 c6 ⊢
  generalize l.length = n at *
  cases d with
  | true =>
    go_enter Tryz.func167, Tryz.ntmps167
    go_wp2_with fail
    go_quiet (fail)
    go_wp2
    go_ret
    exact ⟨by simp, below_drewN hb _⟩
  | false =>
    by_cases h1 : (n : Int) ≤ cf.bck
    · by_cases h2 : (g : Int) < cf.att
      · go_enter Tryz.func167, Tryz.ntmps167
        go_wp2_with fail
        go_quiet (fail)
        go_wp2
        go_ret
        exact ⟨by simp [h1, h2], below_drewN hb _⟩
      · have d2 : decide ((g : Int) < cf.att) = false := by simp; omega
        go_enter Tryz.func167, Tryz.ntmps167
        go_wp2_with fail
        go_quiet (fail)
        go_wp2
        go_ret
        exact ⟨by simp [d2], below_drewN hb _⟩
    · have d1 : decide ((n : Int) ≤ cf.bck) = false := by simp; omega
      go_enter Tryz.func167, Tryz.ntmps167
      go_wp2_with fail
      go_quiet (fail)
      go_wp2
      go_ret
      exact ⟨by simp [d1], below_drewN hb _⟩

/-- attempts that lie somewhere -/
def AtsAt (w : World) (v : Value) (l : List At) : Prop :=
  ∃ a c, v = .slice a l.length c ∧ ∀ j (h : j < l.length), ∃ b, a = some ⟨b, 0, none⟩ ∧ w.cell? ⟨b, j * 4, none⟩ = some (.int .i64 l[j].id) ∧ w.cell? ⟨b, j * 4 + 1, none⟩ = some (.int .i64 l[j].far) ∧ w.cell? ⟨b, j * 4 + 2, none⟩ = some (.int .i64 l[j].gr) ∧ w.cell? ⟨b, j * 4 + 3, none⟩ = some (.int .i64 l[j].hd)
theorem ats_of_own {w : World} {B : Nat} {v : Value} {l : List At} (h : w.ownsRow B 283 4 v l.length (ac l)) : AtsAt w v l := by
  have h' := h
  rcases h.2 with ⟨rfl, hn⟩ | ⟨g, cap, cur, rfl, _⟩
  · exact ⟨none, 0, by rw [hn], fun j hj => by omega⟩
  · refine ⟨some ⟨g, 0, none⟩, cap, rfl, fun j hj => ⟨g, rfl, ?_⟩⟩
    have a := ac_at l j hj
    exact ⟨(h'.cellAt _ (by omega)).trans a.1, (h'.cellAt _ (by omega)).trans a.2.1, (h'.cellAt _ (by omega)).trans a.2.2.1, (h'.cellAt _ (by omega)).trans a.2.2.2⟩
theorem AtsAt.below {w w' : World} {v : Value} {l : List At} (h : AtsAt w v l) (hb : Below w.heap.size w w') : AtsAt w' v l := by
  obtain ⟨a, c, rfl, hc⟩ := h
  refine ⟨a, c, rfl, fun j hj => ?_⟩
  obtain ⟨b, rfl, h0, h1, h2, h3⟩ := hc j hj
  exact ⟨b, rfl, (hb.cell (hp_lt h0)).trans h0, (hb.cell (hp_lt h1)).trans h1, (hb.cell (hp_lt h2)).trans h2, (hb.cell (hp_lt h3)).trans h3⟩

set_option maxHeartbeats 1000000 in
set_option maxRecDepth 100000 in
theorem test (t : Tk) (v : Value) (now : Int) (w : World) (h : AtsAt w v t.live) (hl : t.live.length ≤ 1048576) :
    Calls Tryz.prog 168 #[.agg #[.bool t.done, .int .i64 t.gr, v], .int .i64 now] w fun e w' => (∃ x : Int, e = .returned (.int .i64 x)) ∧ Below w.heap.size w w' := by
  obtain ⟨a, c, rfl, hc⟩ := h
  have hb : Below w.heap.size w (w.alloc (.cells #[.bool t.done, .int .i64 t.gr, .slice a t.live.length c] 205)) := (Below.refl _ _).alloc (Nat.le_refl _) _
  obtain ⟨d, g, l⟩ := t
  simp only at hb hc hl ⊢
  go_enter Tryz.func168, Tryz.ntmps168
  go_wp2_with fail
  go_loopw [5, 11] (fun mv jv wr => ∃ (j : Nat) (x : Int), j ≤ l.length ∧ jv = .int .i64 j ∧ mv = .int .i64 x ∧ Below w.heap.size w wr) (fun _ jv _ => l.length - (intOf jv).toNat)
  case atStart => exact ⟨0, _, Nat.zero_le _, rfl, rfl, hb⟩
  case round =>
    obtain ⟨j, x, hj, rfl, rfl, hbr⟩ := hrel
    by_cases hjl : j < l.length
    · obtain ⟨b, rfl, c0, c1, c2, c3⟩ := hc j hjl
      have d0 := (hbr.cell (p := ⟨b, j * 4, none⟩) (hp_lt c0)).trans c0
      have d1 := (hbr.cell (p := ⟨b, j * 4 + 1, none⟩) (hp_lt c1)).trans c1
      have d2 := (hbr.cell (p := ⟨b, j * 4 + 2, none⟩) (hp_lt c2)).trans c2
      have d3 := (hbr.cell (p := ⟨b, j * 4 + 3, none⟩) (hp_lt c3)).trans c3
      have HE : Hid (Calls Tryz.prog 245 #[.agg #[.int .i64 l[j].id, .int .i64 l[j].far, .int .i64 l[j].gr, .int .i64 l[j].hd], .int .i64 now] (wr.alloc (.cells #[.int .i64 l[j].id, .int .i64 l[j].far, .int .i64 l[j].gr, .int .i64 l[j].hd] 283)) fun e w' => (∃ x : Int, e = .returned (.int .i64 x)) ∧ Below w.heap.size w w') := by
        refine (aest l[j] now _).mono ?_
        rintro e w1 ⟨hx, hb1⟩
        exact ⟨hx, (hbr.alloc hbr.size _).trans (hb1.mono (by have := hbr.size; simp; omega))⟩
      clear c0 c1 c2 c3 hc hb
      generalize l[j] = x0 at *
      obtain ⟨i0, f0, g0, h0⟩ := x0
      simp only at d0 d1 d2 d3 HE
      go_wp2_with (go_at_call 245; refine HE.out.mono ?_; rintro e w1 ⟨⟨y, rfl⟩, hb1⟩)
      all_goals go_roundw
      all_goals first
        | exact ⟨j + 1, _, by omega, by go_num, rfl, hb1⟩
        | (simp [intOf]; omega)
    · clear hc
      go_wp2
      go_ret
      exact ⟨⟨x, rfl⟩, hbr⟩
end Go.Proofs.YtibofakbhgmhiabGreatDoor
