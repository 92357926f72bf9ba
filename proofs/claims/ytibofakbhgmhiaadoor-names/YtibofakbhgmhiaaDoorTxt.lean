import Derived.Test.YtibofakbhgmhiaaDoorNum
import Derived.Deep.RegionWith
import Derived.WalkLawsBesides
namespace Go.Proofs.YtibofakbhgmhiaaDoor
open Go.RowKit Go.Extern.Stop Go.Stop Go.Extern

theorem Tryd.methodErrorE (v : Value) (w : World) : (Go.method 219 66 v "Error").run Tryd.prog w = .ok (64, v) w := by kernel_rfl
theorem Tryd.methodErrorF (v : Value) (w : World) : (Go.method 219 28 v "Error").run Tryd.prog w = .ok (33, v) w := by kernel_rfl

theorem itoa7 (w : World) : Calls Tryd.prog 36 #[.int .i64 7] w fun e w' => e = .returned (.string ⟨#[55]⟩) ∧ w' = w := by
  go_enter Tryd.func36, Tryd.ntmps36
  go_wp2
  go_ret
  exact ⟨rfl, rfl⟩

set_option maxHeartbeats 1000000 in
set_option maxRecDepth 100000 in
theorem reasonText_es (a : Nat → Addr) (i : Nat) (hi : i < 11) (w : World) (S : Sents w a) (s : ByteArray) (hs : w.cell? (a i) = some (.string s)) :
    Calls Tryd.prog 35 #[.iface 66 (.pointer (some (a i)))] w fun e w' => e = .returned (.string s) ∧ w' = w.alloc (.cells (errRow a) 26) := by
  obtain ⟨c0, c1, c2, c3, c4, c5, c6, c7, c8, c9, c10, et, blk, str, inj⟩ := S
  obtain ⟨it, hit, hcmp⟩ := Option.map_eq_some_iff.1 Tryd.isComp
  obtain ⟨jt, hjt, hjs⟩ := Option.map_eq_some_iff.1 Tryd.isSize
  have mE := Tryd.methodErrorE
  have hs' := fun o => (World.cell?_alloc_lt w o (a i) (cell_lt hs)).trans hs
  go_enter Tryd.func35, Tryd.ntmps35
  go_wp2_with fail
  go_loop [20] (fun idx => ∃ k : Nat, k ≤ i ∧ idx = .int .i64 k) (fun idx => 11 - (intOf idx).toNat)
  case atStart => exact ⟨0, by omega, rfl⟩
  case round =>
    obtain ⟨k, hk, rfl⟩ := hrel
    have hlt : k < 11 := by omega
    have hc := errRow_at a w k hlt
    unfold errRow at hc
    by_cases hik : i = k
    · subst hik
      have heq := fun W => run_eql_iface_ptr_same (P := Tryd.prog) W (a i) Tryd.underlying26 Tryd.underlying66 hit hcmp hjt
      go_wp2
      go_ret
      exact ⟨rfl, rfl⟩
    · obtain ⟨ci, ti, hbi⟩ := blk i hi
      obtain ⟨ck, tk, hbk⟩ := blk k hlt
      obtain ⟨si, hsi, _⟩ := str i hi
      obtain ⟨sk, hsk, _⟩ := str k hlt
      have hbi' := fun o => (Below.heap_alloc w o _ (cell_lt hsi)).trans hbi
      have hbk' := fun o => (Below.heap_alloc w o _ (cell_lt hsk)).trans hbk
      have hne : a i ≠ a k := fun h => hik (inj i k hi hlt h)
      have heq := fun o => run_eql_iface_ptr_other (P := Tryd.prog) (w.alloc o) Tryd.underlying26 Tryd.underlying66 hit hcmp hjt (by rw [hjs]; decide) hne (hbi' o) (hbk' o)
      have Hik : Hid (¬ i = k) := hik
      clear hik
      go_wp2
      go_round
      case rel => exact ⟨k + 1, by have := Hik.out; omega, by go_num⟩
      case measure => simp [intOf]; omega
end Go.Proofs.YtibofakbhgmhiaaDoor
