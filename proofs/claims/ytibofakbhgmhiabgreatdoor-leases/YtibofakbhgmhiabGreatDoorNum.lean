import Derived.Test.YtibofakbhgmhiabGreatDoorAs
import Derived.Below
import Derived.Deep.QuietTactic
import Derived.BigQuiet
import Derived.WalkSmall
namespace Go.Proofs.YtibofakbhgmhiabGreatDoor
open Go.RowKit Go.Extern.Stop Go.Stop Go.Extern

/-- the reasons lie where the package's variables say, each in a block of its own make; the handle of 'error' lies in errors.errorType -/
structure Sents (w : World) (a : Nat → Addr) : Prop where
  c0 : w.cell? ⟨0, 0, none⟩ = some (.iface 513 (.pointer (some (a 0))))
  c1 : w.cell? ⟨1, 0, none⟩ = some (.iface 513 (.pointer (some (a 1))))
  c2 : w.cell? ⟨2, 0, none⟩ = some (.iface 513 (.pointer (some (a 2))))
  c3 : w.cell? ⟨3, 0, none⟩ = some (.iface 513 (.pointer (some (a 3))))
  c4 : w.cell? ⟨4, 0, none⟩ = some (.iface 513 (.pointer (some (a 4))))
  c5 : w.cell? ⟨5, 0, none⟩ = some (.iface 513 (.pointer (some (a 5))))
  c6 : w.cell? ⟨6, 0, none⟩ = some (.iface 513 (.pointer (some (a 6))))
  c7 : w.cell? ⟨7, 0, none⟩ = some (.iface 513 (.pointer (some (a 7))))
  c8 : w.cell? ⟨8, 0, none⟩ = some (.iface 513 (.pointer (some (a 8))))
  c9 : w.cell? ⟨9, 0, none⟩ = some (.iface 513 (.pointer (some (a 9))))
  c10 : w.cell? ⟨10, 0, none⟩ = some (.iface 513 (.pointer (some (a 10))))
  et : w.cell? ⟨11, 0, none⟩ = some (.iface 286 (.agg #[.pointer (some ⟨19, 70, none⟩)]))
  blk : ∀ i, i < 11 → ∃ c t, w.heap[(a i).block]? = some (.cells c t (0, 0))
  str : ∀ i, i < 11 → ∃ s, w.cell? (a i) = some (.string s) ∧ s.size ≠ 0 ∧ s.size ≤ 1000
  inj : ∀ i j, i < 11 → j < 11 → a i = a j → i = j

theorem cell_lt {w : World} {p : Addr} {v : Value} (h : w.cell? p = some v) : p.block < w.heap.size := by
  rcases Nat.lt_or_ge p.block w.heap.size with g | g
  · exact g
  · simp [World.cell?, Array.getElem?_eq_none g] at h

theorem Sents.below {w w' : World} {a : Nat → Addr} (S : Sents w a) (h : Below w.heap.size w w') : Sents w' a where
  c0 := by rw [h.cell (cell_lt S.c0)]; exact S.c0
  c1 := by rw [h.cell (cell_lt S.c1)]; exact S.c1
  c2 := by rw [h.cell (cell_lt S.c2)]; exact S.c2
  c3 := by rw [h.cell (cell_lt S.c3)]; exact S.c3
  c4 := by rw [h.cell (cell_lt S.c4)]; exact S.c4
  c5 := by rw [h.cell (cell_lt S.c5)]; exact S.c5
  c6 := by rw [h.cell (cell_lt S.c6)]; exact S.c6
  c7 := by rw [h.cell (cell_lt S.c7)]; exact S.c7
  c8 := by rw [h.cell (cell_lt S.c8)]; exact S.c8
  c9 := by rw [h.cell (cell_lt S.c9)]; exact S.c9
  c10 := by rw [h.cell (cell_lt S.c10)]; exact S.c10
  et := by rw [h.cell (cell_lt S.et)]; exact S.et
  blk := fun i hi => by
    obtain ⟨s, hs, _⟩ := S.str i hi
    obtain ⟨c, t, hb⟩ := S.blk i hi
    exact ⟨c, t, by rw [h.block _ (cell_lt hs)]; exact hb⟩
  str := fun i hi => by
    obtain ⟨s, hs, hn⟩ := S.str i hi
    exact ⟨s, by rw [h.cell (cell_lt hs)]; exact hs, hn⟩
  inj := S.inj

def errRow (a : Nat → Addr) : Array Value := #[.iface 513 (.pointer (some (a 0))), .iface 513 (.pointer (some (a 1))), .iface 513 (.pointer (some (a 2))), .iface 513 (.pointer (some (a 3))), .iface 513 (.pointer (some (a 4))), .iface 513 (.pointer (some (a 5))), .iface 513 (.pointer (some (a 6))), .iface 513 (.pointer (some (a 7))), .iface 513 (.pointer (some (a 8))), .iface 513 (.pointer (some (a 9))), .iface 513 (.pointer (some (a 10)))]

theorem errRow_at (a : Nat → Addr) (w : World) (k : Nat) (h : k < 11) : (w.alloc (.cells (errRow a) 70)).cell? ⟨w.heap.size, k, none⟩ = some (.iface 513 (.pointer (some (a k)))) := by
  rw [World.cell?_alloc_at _ _ _ _ (by simp)]
  show (errRow a)[k]? = _
  have : k = 0 ∨ k = 1 ∨ k = 2 ∨ k = 3 ∨ k = 4 ∨ k = 5 ∨ k = 6 ∨ k = 7 ∨ k = 8 ∨ k = 9 ∨ k = 10 := by omega
  rcases this with rfl | rfl | rfl | rfl | rfl | rfl | rfl | rfl | rfl | rfl | rfl <;> rfl

def nn (i k : Nat) : Int := if i < k then (i : Int) + 1 else 0
theorem nn_no {i k : Nat} (h : k ≤ i) : nn i k = 0 := by unfold nn; rw [if_neg (by omega)]
theorem nn_yes {i k : Nat} (h : i < k) : nn i k = (i : Int) + 1 := by unfold nn; rw [if_pos h]
theorem nn_skip {i k : Nat} (h : ¬ i = k) : nn i (k + 1) = nn i k := by unfold nn; by_cases g : i < k <;> simp [g] <;> omega

set_option maxHeartbeats 1000000 in
theorem number_es (a : Nat → Addr) (i : Nat) (hi : i < 11) (w : World) (S : Sents w a) :
    Calls Tryz.prog 27 #[.iface 513 (.pointer (some (a i)))] w fun e w' => e = .returned (.tuple #[.int .i64 (i + 1), .int .i64 (-1)]) ∧ Below w.heap.size w w' := by
  have S' := S
  obtain ⟨c0, c1, c2, c3, c4, c5, c6, c7, c8, c9, c10, et, blk, str, inj⟩ := S
  have hsz : 11 < w.heap.size := cell_lt (p := ⟨11, 0, none⟩) et
  go_enter Tryz.func27, Tryz.ntmps27
  go_wp2_with fail
  go_loop [4, 23] (fun n idx => ∃ k : Nat, k ≤ 11 ∧ idx = .int .i64 k ∧ n = .int .i64 (nn i k)) (fun _ idx => 11 - (intOf idx).toNat)
  case atStart => exact ⟨0, by omega, rfl, by rw [nn_no (Nat.zero_le _)]⟩
  case round =>
    obtain ⟨k, hk, rfl, rfl⟩ := hrel
    by_cases hlt : k < 11
    · have hc := errRow_at a w k hlt
      unfold errRow at hc
      by_cases hik : i = k
      · subst hik
        have hn0 := nn_no (Nat.le_refl i)
        go_wp2_with (go_at_call 49; refine (is_same _ _).mono ?_; rintro e w' ⟨rfl, rfl⟩)
        go_round
        case rel => exact ⟨i + 1, by omega, by go_num, by rw [nn_yes (Nat.lt_succ_self i)]⟩
        case measure => simp [intOf]; omega
      · obtain ⟨ci, ti, hbi⟩ := blk i hi
        obtain ⟨ck, tk, hbk⟩ := blk k hlt
        obtain ⟨si, hsi, _⟩ := str i hi
        obtain ⟨sk, hsk, _⟩ := str k hlt
        have hbi' := fun o => (Below.heap_alloc w o _ (cell_lt hsi)).trans hbi
        have hbk' := fun o => (Below.heap_alloc w o _ (cell_lt hsk)).trans hbk
        have hne : a i ≠ a k := fun h => hik (inj i k hi hlt h)
        have Hik : Hid (¬ i = k) := hik
        clear hik
        go_wp2_with (go_at_call 49; refine (is_other _ _ _ _ _ _ _ hne (hbi' _) (hbk' _)).mono ?_; rintro e w' ⟨rfl, rfl⟩)
        go_round
        case rel => exact ⟨k + 1, by omega, by go_num, by rw [nn_skip Hik.out]⟩
        case measure => simp [intOf]; omega
    · obtain rfl : k = 11 := by omega
      rw [nn_yes hi]
      have hgA : ∀ o1 o2, ((w.alloc o1).alloc o2).cell? ⟨11, 0, none⟩ = some (.iface 286 (.agg #[.pointer (some ⟨19, 70, none⟩)])) := fun o1 o2 => by
        rw [World.cell?_alloc_lt _ _ ⟨11, 0, none⟩ (by simp; omega), World.cell?_alloc_lt _ _ ⟨11, 0, none⟩ hsz]; exact et
      go_wp2_with fail
      refine (as_miss _ _ _ (hgA _ _)).mono ?_
      rintro e w' ⟨rfl, rfl⟩
      go_wp2
      go_ret2
      exact ⟨rfl, (((((Below.refl _ _).alloc (Nat.le_refl _) _).alloc (by simp) _).alloc (by simp; omega) _).alloc (by simp; omega) _).alloc (by simp; omega) _⟩

set_option maxHeartbeats 1000000 in
theorem number_fault (a : Nat → Addr) (i pb : Nat) (at_ : Int) (hi : i < 11) (w : World) (S : Sents w a)
    (hp0 : w.cell? ⟨pb, 0, none⟩ = some (.int .i64 at_)) (hp1 : w.cell? ⟨pb, 1, none⟩ = some (.iface 513 (.pointer (some (a i))))) :
    Calls Tryz.prog 27 #[.iface 129 (.pointer (some ⟨pb, 0, none⟩))] w fun e w' => e = .returned (.tuple #[.int .i64 (i + 1), .int .i64 at_]) ∧ Below w.heap.size w w' := by
  have S' := S
  obtain ⟨c0, c1, c2, c3, c4, c5, c6, c7, c8, c9, c10, et, blk, str, inj⟩ := S
  have hsz : 11 < w.heap.size := cell_lt (p := ⟨11, 0, none⟩) et
  have hpz : pb < w.heap.size := cell_lt (p := ⟨pb, 0, none⟩) hp0
  go_enter Tryz.func27, Tryz.ntmps27
  go_wp2_with fail
  go_loop [4, 23] (fun n idx => ∃ k : Nat, k ≤ 11 ∧ idx = .int .i64 k ∧ n = .int .i64 (nn i k)) (fun _ idx => 11 - (intOf idx).toNat)
  case atStart => exact ⟨0, by omega, rfl, by rw [nn_no (Nat.zero_le _)]⟩
  case round =>
    obtain ⟨k, hk, rfl, rfl⟩ := hrel
    have hp1' : ∀ o1, (w.alloc o1).cell? ⟨pb, 1, none⟩ = some (.iface 513 (.pointer (some (a i)))) := fun o1 => by
      rw [World.cell?_alloc_lt _ _ ⟨pb, 1, none⟩ hpz]; exact hp1
    by_cases hlt : k < 11
    · have hc := errRow_at a w k hlt
      unfold errRow at hc
      by_cases hik : i = k
      · subst hik
        have hn0 := nn_no (Nat.le_refl i)
        go_wp2_with (go_at_call 49; refine (is_wrap_same _ _ _ (hp1' _)).mono ?_; rintro e w' ⟨rfl, rfl⟩)
        go_round
        case rel => exact ⟨i + 1, by omega, by go_num, by rw [nn_yes (Nat.lt_succ_self i)]⟩
        case measure => simp [intOf]; omega
      · obtain ⟨ci, ti, hbi⟩ := blk i hi
        obtain ⟨ck, tk, hbk⟩ := blk k hlt
        obtain ⟨si, hsi, _⟩ := str i hi
        obtain ⟨sk, hsk, _⟩ := str k hlt
        have hbi' := fun o => (Below.heap_alloc w o _ (cell_lt hsi)).trans hbi
        have hbk' := fun o => (Below.heap_alloc w o _ (cell_lt hsk)).trans hbk
        have hne : a i ≠ a k := fun h => hik (inj i k hi hlt h)
        have Hik : Hid (¬ i = k) := hik
        clear hik
        go_wp2_with (go_at_call 49; refine (is_wrap_other _ _ _ _ _ _ _ _ (hp1' _) hne (hbi' _) (hbk' _)).mono ?_; rintro e w' ⟨rfl, rfl⟩)
        go_round
        case rel => exact ⟨k + 1, by omega, by go_num, by rw [nn_skip Hik.out]⟩
        case measure => simp [intOf]; omega
    · obtain rfl : k = 11 := by omega
      rw [nn_yes hi]
      have hgA : ∀ o1 o2, ((w.alloc o1).alloc o2).cell? ⟨11, 0, none⟩ = some (.iface 286 (.agg #[.pointer (some ⟨19, 70, none⟩)])) := fun o1 o2 => by
        rw [World.cell?_alloc_lt _ _ ⟨11, 0, none⟩ (by simp; omega), World.cell?_alloc_lt _ _ ⟨11, 0, none⟩ hsz]; exact et
      go_wp2_with fail
      refine (as_hit _ _ (.pointer none) _ (hgA _ _) (by simp) (by simp)).mono ?_
      rintro e w' ⟨rfl, rfl⟩
      have hp0' : ∀ o1 o2 o3 o4 o5 o6 : Obj, ((((((w.alloc o1).alloc o2).alloc o3).alloc o4).alloc o5).alloc o6).cell? ⟨pb, 0, none⟩ = some (.int .i64 at_) := fun o1 o2 o3 o4 o5 o6 => by
        rw [World.cell?_alloc_lt _ _ ⟨pb, 0, none⟩ (by simp; omega), World.cell?_alloc_lt _ _ ⟨pb, 0, none⟩ (by simp; omega), World.cell?_alloc_lt _ _ ⟨pb, 0, none⟩ (by simp; omega), World.cell?_alloc_lt _ _ ⟨pb, 0, none⟩ (by simp; omega), World.cell?_alloc_lt _ _ ⟨pb, 0, none⟩ (by simp; omega), World.cell?_alloc_lt _ _ ⟨pb, 0, none⟩ hpz]; exact hp0
      go_wp2_with fail
      go_quiet (fail)
      go_wp2
      go_ret2
      exact ⟨rfl, below_drewN ((((((((Below.refl _ _).alloc (Nat.le_refl _) _).alloc (by simp) _).alloc (by simp; omega) _).alloc (by simp; omega) _).alloc (by simp; omega) _).alloc (by simp; omega) _)) _⟩
end Go.Proofs.YtibofakbhgmhiabGreatDoor
