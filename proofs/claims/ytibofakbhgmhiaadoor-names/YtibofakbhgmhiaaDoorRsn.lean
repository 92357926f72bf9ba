import Derived.Test.YtibofakbhgmhiaaDoorErr
namespace Go.Proofs.YtibofakbhgmhiaaDoor
open Go.RowKit Go.Extern.Stop Go.Stop Go.Extern

theorem text_some {s : ByteArray} (h : s.size ≠ 0) : s.toList.isEmpty = false := by
  rcases Nat.eq_zero_or_pos s.toList.length with g | g
  · exfalso; apply h
    rw [ByteArray.toList_eq] at g
    simpa using g
  · cases e : s.toList with
    | nil => rw [e] at g; simp at g
    | cons x xs => rfl

set_option maxHeartbeats 2000000 in
set_option maxRecDepth 100000 in
theorem reason_bare (a : Nat → Addr) (i : Nat) (hi : i < 11) (w : World) (S : Sents w a) :
    Calls Tryd.prog 4 #[.int .i64 i, .bool false] w fun e w' => e = .returned (.tuple #[.int .i64 (i + 1), .int .i64 (-1), .bool true]) ∧ Below w.heap.size w w' := by
  have hc := errRow_at a w i hi
  have hS := S.alloc (.cells (errRow a) 26)
  obtain ⟨s, hs, hs0, hs1⟩ := S.str i hi
  have hse := text_some hs0
  have hsd := (World.cell?_alloc_lt w (.cells (errRow a) 26) (a i) (cell_lt hs)).trans hs
  have hb0 : Below w.heap.size w (w.alloc (.cells (errRow a) 26)) := (Below.refl _ _).alloc (Nat.le_refl _) _
  unfold errRow at hc
  obtain ⟨c0, c1, c2, c3, c4, c5, c6, c7, c8, c9, c10, et, blk, str, inj⟩ := S
  have mE := Tryd.methodErrorE
  clear hs blk str inj
  go_enter Tryd.func4, Tryd.ntmps4
  go_wp2_with fail
  refine (number_es a i hi _ hS).mono ?_
  rintro e w1 ⟨rfl, hb⟩
  have hs2 : w1.cell? (a i) = some (.string s) := by rw [hb.cell (cell_lt hsd)]; exact hsd
  clear hc hS hsd c0 c1 c2 c3 c4 c5 c6 c7 c8 c9 c10 et
  go_wp2
  go_ret3
  exact ⟨rfl, hb0.trans (hb.mono (by simp))⟩

set_option maxHeartbeats 2000000 in
set_option maxRecDepth 100000 in
theorem reason_wrapped (a : Nat → Addr) (i : Nat) (hi : i < 11) (w : World) (S : Sents w a) :
    Calls Tryd.prog 4 #[.int .i64 i, .bool true] w fun e w' => e = .returned (.tuple #[.int .i64 (i + 1), .int .i64 7, .bool true]) ∧ Below w.heap.size w w' := by
  have hc := errRow_at a w i hi
  have hS := (S.alloc (.cells (errRow a) 26)).alloc (.cells #[.int .i64 7, .iface 66 (.pointer (some (a i)))] 30)
  have hb0 : Below w.heap.size w ((w.alloc (.cells (errRow a) 26)).alloc (.cells #[.int .i64 7, .iface 66 (.pointer (some (a i)))] 30)) := ((Below.refl _ _).alloc (Nat.le_refl _) _).alloc (by simp) _
  have q0 : ((w.alloc (.cells (errRow a) 26)).alloc (.cells #[.int .i64 7, .iface 66 (.pointer (some (a i)))] 30)).cell? ⟨w.heap.size + 1, 0, none⟩ = some (.int .i64 7) := by
    rw [World.cell?_alloc_at _ _ _ _ (by simp)]; rfl
  have q1 : ((w.alloc (.cells (errRow a) 26)).alloc (.cells #[.int .i64 7, .iface 66 (.pointer (some (a i)))] 30)).cell? ⟨w.heap.size + 1, 1, none⟩ = some (.iface 66 (.pointer (some (a i)))) := by
    rw [World.cell?_alloc_at _ _ _ _ (by simp)]; rfl
  unfold errRow at hc
  obtain ⟨c0, c1, c2, c3, c4, c5, c6, c7, c8, c9, c10, et, blk, str, inj⟩ := S
  have mE := Tryd.methodErrorF
  clear blk str inj
  go_enter Tryd.func4, Tryd.ntmps4
  go_wp2_with fail
  refine (number_fault a i _ 7 hi _ hS q0 q1).mono ?_
  rintro e w1 ⟨rfl, hb⟩
  have S1 := hS.below hb
  obtain ⟨s, hs, hs0, hs1⟩ := S1.str i hi
  have p0 : w1.cell? ⟨w.heap.size + 1, 0, none⟩ = some (.int .i64 7) := by rw [hb.cell (cell_lt q0)]; exact q0
  have p1 : w1.cell? ⟨w.heap.size + 1, 1, none⟩ = some (.iface 66 (.pointer (some (a i)))) := by rw [hb.cell (cell_lt q1)]; exact q1
  clear hc hS q0 q1 c0 c1 c2 c3 c4 c5 c6 c7 c8 c9 c10 et
  go_wp2_with fail
  refine (faultError a i _ hi _ S1 s hs hs1 p0 p1).mono ?_
  rintro e w2 ⟨⟨t, rfl, ht⟩, hb2⟩
  have hse := text_some ht
  go_wp2
  go_ret3
  exact ⟨rfl, (hb0.trans (hb.mono (by simp; omega))).trans (hb2.mono (by have := hb.size; simp at this; omega))⟩

set_option maxHeartbeats 2000000 in
set_option maxRecDepth 100000 in
theorem names_any (a : Nat → Addr) (w : World) (S : Sents w a) :
    Calls Tryd.prog 3 #[] w fun e w' => e = .returned (.bool true) ∧ Below w.heap.size w w' := by
  go_enter Tryd.func3, Tryd.ntmps3
  go_wp2_with fail
  go_loopw [1] (fun i w1 => ∃ k : Nat, k ≤ 11 ∧ i = .int .i64 k ∧ Below w.heap.size w w1) (fun i _ => 11 - (intOf i).toNat)
  case atStart => exact ⟨0, by omega, rfl, Below.refl _ _⟩
  case round =>
    obtain ⟨k, hk, rfl, hb1⟩ := hrel
    have hs1 := hb1.size
    by_cases hlt : k < 11
    · have S1 := S.below hb1
      go_wp2_with fail
      refine (reason_bare a k hlt _ S1).mono ?_
      rintro e w2 ⟨rfl, hb2⟩
      have hs2 := hb2.size
      have S2 := S1.below hb2
      go_wp2_with fail
      refine (reason_wrapped a k hlt _ S2).mono ?_
      rintro e w3 ⟨rfl, hb3⟩
      have hs3 := hb3.size
      go_wp2
      go_roundw
      case rel => exact ⟨k + 1, by omega, by go_num, (hb1.trans (hb2.mono hs1)).trans (hb3.mono (by omega))⟩
      case measure => simp [intOf]; omega
    · go_wp2
      go_ret
      exact ⟨rfl, hb1⟩
end Go.Proofs.YtibofakbhgmhiaaDoor
