import Derived.Test.YtibofakbhgmhiabGreatDoorHp4
namespace Go.Proofs.YtibofakbhgmhiabGreatDoor
open Go.RowKit

theorem two_ints (w : World) (x y : Nat) : IntsAt (w.alloc (.cells #[.int .i64 (x : Int), .int .i64 (y : Int)] 3)) w.heap.size [x, y] := by
  intro j hj
  rw [World.cell?_alloc_at _ _ _ _ (by simp at hj ⊢)]
  rcases j with _ | _ | j
  · rfl
  · rfl
  · simp at hj; omega

set_option maxHeartbeats 2000000 in
set_option maxRecDepth 100000 in
theorem hsink {B Hb Lb g cap : Nat} {w : World} {xs : List Hd} (h : HpAt B Hb Lb g cap w xs) (k : Nat) (hk : k < xs.length) (hn : xs.length ≤ 1099511627776) :
    Calls Tryz.prog 283 #[.pointer (some ⟨Hb, 0, none⟩), .int .i64 k] w fun e w' => e = .returned (.tuple #[]) ∧ HpAt B Hb Lb g cap w' (sinkL xs k) ∧ Kp (· = g) w w' := by
  go_enter Tryz.func283, Tryz.ntmps283
  go_wp2_with fail
  go_loopw [1] (fun kv wr => ∃ (j : Nat) (ys : List Hd), kv = .int .i64 j ∧ j < ys.length ∧ ys.length = xs.length ∧ HpAt B Hb Lb g cap wr ys ∧ sinkL ys j = sinkL xs k ∧ Kp (· = g) w wr) (fun kv _ => xs.length - (intOf kv).toNat)
  case atStart => exact ⟨k, xs, rfl, hk, rfl, h, rfl, Kp.refl _ _⟩
  case round =>
    obtain ⟨j, ys, rfl, hj, hl, hw, he, hb⟩ := hrel
    have HL : Hid (ys.length = xs.length) := hl
    have hjx : j < xs.length := by omega
    have hl2 := looks_lt (xs := ys) [2 * j + 1, 2 * j + 2] hj
    have hlt2 := looks_two ys j
    have hbA : Below wr.heap.size wr (wr.alloc (.cells #[.int .i64 ((2 * j + 1 : Nat) : Int), .int .i64 ((2 * j + 2 : Nat) : Int)] 3)) := (Below.refl _ _).alloc (Nat.le_refl _) _
    have HLE : Hid (Calls Tryz.prog 327 #[.pointer (some ⟨Hb, 0, none⟩), .int .i64 j, .slice (some ⟨wr.heap.size, 0, none⟩) 2 2] (wr.alloc (.cells #[.int .i64 ((2 * j + 1 : Nat) : Int), .int .i64 ((2 * j + 2 : Nat) : Int)] 3)) fun e w' => e = .returned (.int .i64 (looks ys j [2 * j + 1, 2 * j + 2] : Nat)) ∧ Below wr.heap.size wr w') := by
      refine (hleast (hw.below hbA) j [2 * j + 1, 2 * j + 2] wr.heap.size (fun _ => hj) (two_ints _ _ _) (by simp) (by simp)).mono ?_
      rintro e w1 ⟨rfl, hb1⟩
      exact ⟨rfl, hbA.trans (hb1.mono hbA.size)⟩
    have HW : Hid (HpAt B Hb Lb g cap wr ys) := hw
    have HR : Hid (sinkL ys j = if j < looks ys j [2 * j + 1, 2 * j + 2] ∧ looks ys j [2 * j + 1, 2 * j + 2] < ys.length then sinkL (swapL ys j (looks ys j [2 * j + 1, 2 * j + 2])) (looks ys j [2 * j + 1, 2 * j + 2]) else ys) := by
      show _ = _
      rw [sinkL]; split <;> simp_all
    generalize looks ys j [2 * j + 1, 2 * j + 2] = l at *
    have HHL : Hid (l < ys.length) := hl2
    have q1 : (((2 * j + 1 : Nat) : Int)) = 2 * (j : Int) + 1 := by omega
    have q2 : (((2 * j + 2 : Nat) : Int)) = 2 * (j : Int) + 2 := by omega
    rw [q1, q2] at HLE
    have hlx : l < xs.length := by omega
    have HSW : Hid (j ≠ l → ∀ w1, Below wr.heap.size wr w1 → Calls Tryz.prog 328 #[.pointer (some ⟨Hb, 0, none⟩), .int .i64 j, .int .i64 l] w1 fun e w' => e = .returned (.tuple #[]) ∧ HpAt B Hb Lb g cap w' (swapL ys j l) ∧ Kp (· = g) w1 w') := by
      intro hjl w1 hb1
      have HZ : swapL ys j l = (ys.set j ys[l]).set l ys[j] := by unfold swapL; exact dif_pos ⟨hj, hl2⟩
      rw [HZ]
      exact hswap (hw.below hb1) j l hj hl2 hjl
    clear hw hl hl2 h hbA q1 q2
    by_cases hjl : l = j
    · subst hjl
      go_wp2_with (go_at_call 327; refine HLE.out.mono ?_; rintro e w1 ⟨rfl, hb1⟩)
      (try simp only [Exit.inBlock, Exit.then])
      refine bodyPost_ret (results_none rfl _ _ _) rfl ?_
      refine ⟨rfl, ?_, hb.trans (Kp.of_below (P := (· = g)) hb1) (fun _ _ e => e)⟩
      rw [← he, HR.out, if_neg (fun h => by have := h.1; omega)]
      exact HW.out.below hb1
    · have hjl2 : j < l := by omega
      have hne : ¬ (l : Int) = (j : Int) := by omega
      go_wp2_with (first | (go_at_call 327; refine HLE.out.mono ?_; rintro e w1 ⟨rfl, hb1⟩) | (go_at_call 328; refine (HSW.out (by omega) _ hb1).mono ?_; rintro e w2 ⟨rfl, hp2, hb2⟩))
      go_roundw
      case rel => exact ⟨l, swapL ys j l, rfl, by rw [swapL_length]; exact HHL.out, by rw [swapL_length]; exact HL.out, hp2, by rw [← he, HR.out, if_pos ⟨hjl2, HHL.out⟩], (hb.trans (Kp.of_below (P := (· = g)) hb1) (fun _ _ e => e)).trans hb2 (fun _ _ e => e)⟩
      case measure => simp [intOf]; omega

set_option maxHeartbeats 2000000 in
set_option maxRecDepth 100000 in
theorem hsink_nil {B Hb Lb g cap : Nat} {w : World} (h : HpAt B Hb Lb g cap w []) :
    Calls Tryz.prog 283 #[.pointer (some ⟨Hb, 0, none⟩), .int .i64 0] w fun e w' => e = .returned (.tuple #[]) ∧ HpAt B Hb Lb g cap w' [] ∧ Kp (· = g) w w' := by
  have hbA : Below w.heap.size w (w.alloc (.cells #[.int .i64 ((1 : Nat) : Int), .int .i64 ((2 : Nat) : Int)] 3)) := (Below.refl _ _).alloc (Nat.le_refl _) _
  have HLE : Hid (Calls Tryz.prog 327 #[.pointer (some ⟨Hb, 0, none⟩), .int .i64 0, .slice (some ⟨w.heap.size, 0, none⟩) 2 2] (w.alloc (.cells #[.int .i64 1, .int .i64 2] 3)) fun e w' => e = .returned (.int .i64 0) ∧ Below w.heap.size w w') := by
    refine (hleast (h.below hbA) 0 [1, 2] w.heap.size (fun h => by simp at h) (two_ints _ _ _) (by simp) (by simp)).mono ?_
    rintro e w1 ⟨rfl, hb1⟩
    exact ⟨rfl, hbA.trans (hb1.mono hbA.size)⟩
  go_enter Tryz.func283, Tryz.ntmps283
  go_wp2_with fail
  go_loopw [1] (fun kv wr => kv = .int .i64 0 ∧ wr = w) (fun _ _ => 0)
  case atStart => exact ⟨rfl, rfl⟩
  case round =>
    obtain ⟨rfl, rfl⟩ := hrel
    go_wp2_with (go_at_call 327; refine HLE.out.mono ?_; rintro e w1 ⟨rfl, hb1⟩)
    (try simp only [Exit.inBlock, Exit.then])
    refine bodyPost_ret (results_none rfl _ _ _) rfl ?_
    exact ⟨rfl, h.below hb1, Kp.of_below hb1⟩
end Go.Proofs.YtibofakbhgmhiabGreatDoor
