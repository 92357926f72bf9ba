import Derived.Test.YtibofakbhgmhiabGreatDoorHp8
namespace Go.Proofs.YtibofakbhgmhiabGreatDoor
open Go.RowKit

set_option maxHeartbeats 1000000 in
set_option maxRecDepth 100000 in
theorem hpop_nil {B Hb Lb : Nat} {tv : Value} {w : World} (h : HpV B Hb Lb tv w []) :
    Calls Tryz.prog 233 #[.pointer (some ⟨Hb, 0, none⟩)] w fun e w' => e = .returned (.tuple #[.agg #[.int .i64 0, .int .i64 0, .int .i64 0, .int .i64 0], .bool false]) ∧ Below w.heap.size w w' := by
  have hHl := lt_of_block h.blk
  obtain ⟨ao, c, rfl⟩ : ∃ ao c, tv = .slice ao 0 c := by
    rcases h.own.2 with ⟨hn, _⟩ | ⟨g', cap', cur, hv, _⟩
    · exact ⟨none, 0, hn⟩
    · exact ⟨_, _, hv⟩
  have c1 : w.cell? ⟨Hb, 1, none⟩ = some (.slice ao 0 c) := by simp [World.cell?, h.blk]
  have c1b : ∀ o o', ((w.alloc o).alloc o').cell? ⟨Hb, 1, none⟩ = some (.slice ao 0 c) := fun o o' => by rw [World.cell?_alloc_lt _ _ _ (by simp; omega), World.cell?_alloc_lt _ _ _ hHl, c1]
  have hb2 : Below w.heap.size w ((w.alloc (.cells #[.int .i64 0, .int .i64 0, .int .i64 0, .int .i64 0] 384)).alloc (.cells #[.int .i64 0, .int .i64 0, .int .i64 0, .int .i64 0] 384)) := ((Below.refl _ _).alloc (Nat.le_refl _) _).alloc (by simp) _
  clear h
  go_enter Tryz.func233, Tryz.ntmps233
  go_wp2
  exact bodyPost_ret (v := .tuple #[.agg #[.int .i64 0, .int .i64 0, .int .i64 0, .int .i64 0], .bool false]) (by simp [results, Tryz.results233, go_sem]) rfl ⟨rfl, hb2⟩

def pushL (xs : List Hd) (x : Hd) : List Hd := riseL (xs ++ [x]) xs.length
def buildL (hs : List Hd) : List Hd := hs.foldl pushL []
theorem pushL_length (xs : List Hd) (x : Hd) : (pushL xs x).length = xs.length + 1 := by unfold pushL; rw [riseL_length]; simp
theorem foldPush_length : ∀ (hs xs : List Hd), (hs.foldl pushL xs).length = xs.length + hs.length
  | [], xs => rfl
  | h :: t, xs => by rw [List.foldl_cons, foldPush_length t, pushL_length]; simp; omega
theorem buildL_length (hs : List Hd) : (buildL hs).length = hs.length := by unfold buildL; rw [foldPush_length]; simp
theorem buildL_succ (hs : List Hd) (j : Nat) (h : j < hs.length) : buildL (hs.take (j + 1)) = pushL (buildL (hs.take j)) hs[j] := by
  unfold buildL; rw [List.take_succ_eq_append_getElem h, List.foldl_append]; rfl

/-- heads that lie somewhere -/
def HdsAt (w : World) (v : Value) (hs : List Hd) : Prop :=
  ∃ a c, v = .slice a hs.length c ∧ ∀ j (h : j < hs.length), ∃ b, a = some ⟨b, 0, none⟩ ∧ w.cell? ⟨b, j * 4, none⟩ = some (.int .i64 hs[j].K) ∧ w.cell? ⟨b, j * 4 + 1, none⟩ = some (.int .i64 hs[j].T) ∧ w.cell? ⟨b, j * 4 + 2, none⟩ = some (.int .i64 hs[j].r) ∧ w.cell? ⟨b, j * 4 + 3, none⟩ = some (.int .i64 hs[j].n)
theorem hds_of_own {w : World} {B : Nat} {v : Value} {hs : List Hd} (h : w.ownsRow B 384 4 v hs.length (hc hs)) : HdsAt w v hs := by
  have h' := h
  rcases h.2 with ⟨rfl, hn⟩ | ⟨g, cap, cur, rfl, _⟩
  · exact ⟨none, 0, by rw [hn], fun j hj => by omega⟩
  · refine ⟨some ⟨g, 0, none⟩, cap, rfl, fun j hj => ⟨g, rfl, ?_⟩⟩
    have a := hc_at hs j hj
    exact ⟨(h'.cellAt _ (by omega)).trans a.1, (h'.cellAt _ (by omega)).trans a.2.1, (h'.cellAt _ (by omega)).trans a.2.2.1, (h'.cellAt _ (by omega)).trans a.2.2.2⟩

theorem HpV.lt {B Hb Lb : Nat} {tv : Value} {w : World} {xs : List Hd} (h : HpV B Hb Lb tv w xs) : ∀ k, tv.ownBlock = some k → B ≤ k := fun k hk => (h.own.lt k hk).1

set_option maxHeartbeats 2000000 in
set_option maxRecDepth 100000 in
theorem hnew (Lb : Nat) (w : World) (hs : List Hd) (sv : Value) (hl : w.heap[Lb]? = some (.cells #[.func (.func 76) #[] #[]] 175 (0, 0))) (ho : HdsAt w sv hs) (hn : hs.length ≤ 1048576) :
    Calls Tryz.prog 230 #[.func (.func 282) #[] #[.pointer (some ⟨Lb, 0, none⟩)], sv] w fun e w' => e = .returned (.pointer (some ⟨w.heap.size, 0, none⟩)) ∧ (∃ tv, HpV w.heap.size w.heap.size Lb tv w' (buildL hs)) ∧ Below w.heap.size w w' := by
  obtain ⟨ao, c, rfl, hcell⟩ := ho
  have H0 : HpV w.heap.size w.heap.size Lb (.slice none 0 0) (w.alloc (.cells #[.func (.func 282) #[] #[.pointer (some ⟨Lb, 0, none⟩)], .slice none 0 0] 425)) [] := by
    refine ⟨?_, ?_, World.ownsRow_nil _ _ _ _⟩
    · show (w.heap.push _)[w.heap.size]? = _
      exact Array.getElem?_push_size
    · rw [Below.heap_alloc _ _ _ (lt_of_block hl)]; exact hl
  have B0 : Below w.heap.size w (w.alloc (.cells #[.func (.func 282) #[] #[.pointer (some ⟨Lb, 0, none⟩)], .slice none 0 0] 425)) := (Below.refl _ _).alloc (Nat.le_refl _) _
  go_enter Tryz.func230, Tryz.ntmps230
  go_wp2_with fail
  go_loopw [13] (fun k wr => ∃ j : Nat, j ≤ hs.length ∧ k = .int .i64 j ∧ (∃ tv, HpV w.heap.size w.heap.size Lb tv wr (buildL (hs.take j))) ∧ Below w.heap.size w wr) (fun k _ => hs.length - (intOf k).toNat)
  case atStart => exact ⟨0, Nat.zero_le _, rfl, ⟨_, H0⟩, B0⟩
  case round =>
    obtain ⟨j, hj, rfl, ⟨tv, hv⟩, hb⟩ := hrel
    by_cases hjl : j < hs.length
    · obtain ⟨b, rfl, d0, d1, d2, d3⟩ := hcell j hjl
      have e0 := (hb.cell (p := ⟨b, j * 4, none⟩) (hp_lt d0)).trans d0
      have e1 := (hb.cell (p := ⟨b, j * 4 + 1, none⟩) (hp_lt d1)).trans d1
      have e2 := (hb.cell (p := ⟨b, j * 4 + 2, none⟩) (hp_lt d2)).trans d2
      have e3 := (hb.cell (p := ⟨b, j * 4 + 3, none⟩) (hp_lt d3)).trans d3
      have HS : Hid (buildL (hs.take (j + 1)) = pushL (buildL (hs.take j)) hs[j]) := buildL_succ hs j hjl
      have HLn : Hid ((buildL (hs.take j)).length = j) := by show _ = _; rw [buildL_length, List.length_take]; omega
      generalize hs[j] = x at *
      obtain ⟨k, t, r, n⟩ := x
      simp only at e0 e1 e2 e3
      have hbx : Below wr.heap.size wr (wr.alloc (.cells #[.int .i64 k, .int .i64 t, .int .i64 r, .int .i64 n] 384)) := (Below.refl _ _).alloc (Nat.le_refl _) _
      have HPU : Hid (Calls Tryz.prog 234 #[.pointer (some ⟨w.heap.size, 0, none⟩), .agg #[.int .i64 k, .int .i64 t, .int .i64 r, .int .i64 n]] (wr.alloc (.cells #[.int .i64 k, .int .i64 t, .int .i64 r, .int .i64 n] 384)) fun e w' => e = .returned (.tuple #[]) ∧ (∃ tv, HpV w.heap.size w.heap.size Lb tv w' (buildL (hs.take (j + 1)))) ∧ Below w.heap.size w w') := by
        refine (hpush (hv.below hbx) k t r n (by rw [HLn.out]; omega) (Nat.le_trans hb.size hbx.size)).mono ?_
        rintro e w1 ⟨rfl, g, cap, h1, _, k1⟩
        refine ⟨rfl, ⟨_, by rw [HS.out]; exact h1.v⟩, ?_⟩
        refine (hb.trans (hbx.mono hb.size)).trans (k1.below (Nat.le_trans hb.size hbx.size) ?_)
        rintro i hi (rfl | e)
        · omega
        · have := hv.lt i e; omega
      clear hv d0 d1 d2 d3 hcell H0 B0 hl
      go_wp2_with (go_at_call 234; refine HPU.out.mono ?_; rintro e w1 ⟨rfl, hv1, hb1⟩)
      go_roundw
      case rel => exact ⟨j + 1, by omega, by go_num, hv1, hb1⟩
      case measure => simp [intOf]; omega
    · have : j = hs.length := by omega
      subst this
      rw [List.take_length] at hv
      go_wp2
      go_ret
      exact ⟨rfl, ⟨tv, hv⟩, hb⟩
end Go.Proofs.YtibofakbhgmhiabGreatDoor
