import Derived.Test.YtibofakbhgmhiabGreatDoorProg
import Derived.WalkKit
import Derived.WalkLawsBesides
import Derived.Below
import Derived.WalkSmall
import Derived.Deep.QuietTactic
import Derived.BigQuiet
namespace Go.Proofs.YtibofakbhgmhiabGreatDoor
open Go.RowKit

/-- one step of a script, as data -/
structure OpD where
  k : Int
  A : Int
  B : Int
  C : Int
  s : ByteArray
  t : ByteArray

def tot : List OpD → Nat
  | [] => 0
  | o :: os => 1 + o.s.size + o.t.size + tot os
theorem tot_append : ∀ a b : List OpD, tot (a ++ b) = tot a + tot b
  | [], b => by simp [tot]
  | o :: a, b => by simp [tot, tot_append a b]; omega
theorem tot_take_succ (ops : List OpD) (k : Nat) (h : k < ops.length) : tot (ops.take (k + 1)) = tot (ops.take k) + (1 + ops[k].s.size + ops[k].t.size) := by
  rw [List.take_succ_eq_append_getElem h, tot_append]; simp [tot]
theorem tot_take_le (ops : List OpD) (k : Nat) : tot (ops.take k) ≤ tot ops := by
  have : tot ops = tot (ops.take k) + tot (ops.drop k) := by rw [← tot_append, List.take_append_drop]
  omega
theorem tot_ge : ∀ ops : List OpD, ops.length ≤ tot ops
  | [] => Nat.le_refl _
  | o :: os => by have := tot_ge os; simp [tot]; omega
theorem tot_rest (ops : List OpD) (k : Nat) (h : k ≤ ops.length) : tot (ops.take k) + (ops.length - k) ≤ tot ops := by
  have h1 : tot ops = tot (ops.take k) + tot (ops.drop k) := by rw [← tot_append, List.take_append_drop]
  have h2 := tot_ge (ops.drop k)
  simp at h2
  omega

def OpsAt (w : World) (v : Value) (ops : List OpD) : Prop :=
  ∃ a c, v = .slice a ops.length c ∧ ∀ j (h : j < ops.length), ∃ b off, a = some ⟨b, off, none⟩ ∧ w.cell? ⟨b, off + j * 6, none⟩ = some (.int .i64 ops[j].k) ∧ w.cell? ⟨b, off + j * 6 + 1, none⟩ = some (.int .i64 ops[j].A) ∧ w.cell? ⟨b, off + j * 6 + 2, none⟩ = some (.int .i64 ops[j].B) ∧
    w.cell? ⟨b, off + j * 6 + 3, none⟩ = some (.int .i64 ops[j].C) ∧ w.cell? ⟨b, off + j * 6 + 4, none⟩ = some (.string ops[j].s) ∧ w.cell? ⟨b, off + j * 6 + 5, none⟩ = some (.string ops[j].t)

set_option maxHeartbeats 1000000 in
set_option maxRecDepth 100000 in
theorem small (ops : List OpD) (v : Value) (w : World) (ho : OpsAt w v ops) (hn : ops.length ≤ 140737488351232) (hS : ∀ o ∈ ops, o.s.size ≤ 140737488351232 ∧ o.t.size ≤ 140737488351232) :
    Calls Tryz.prog 10 #[v] w fun e w' => e = .returned (.bool (decide (tot ops ≤ 1048576))) ∧ ∃ q, w' = w.drewN q := by
  obtain ⟨a, c, rfl, hc⟩ := ho
  have hge := tot_ge ops
  by_cases hlen : 1048576 < ops.length
  · have hd : decide (tot ops ≤ 1048576) = false := by simp; omega
    rw [hd]
    go_enter Tryz.func10, Tryz.ntmps10
    go_wp2
    go_ret
    exact ⟨rfl, 0, rfl⟩
  · go_enter Tryz.func10, Tryz.ntmps10
    go_wp2_with fail
    go_loopw [3, 4] (fun n i wr => ∃ k q : Nat, k ≤ ops.length ∧ i = .int .i64 k ∧ n = .int .i64 ((ops.length - k + tot (ops.take k) : Nat) : Int) ∧ ops.length - k + tot (ops.take k) ≤ 1048576 ∧ wr = w.drewN q) (fun _ i _ => ops.length - (intOf i).toNat)
    case atStart => exact ⟨0, 0, Nat.zero_le _, rfl, by simp [tot], by simp [tot]; omega, rfl⟩
    case round =>
      obtain ⟨k, q, hk, rfl, rfl, hle, rfl⟩ := hrel
      by_cases hlt : k < ops.length
      · obtain ⟨b, off, rfl, c0, c1, c2, c3, c4, c5⟩ := hc k hlt
        have hz := hS ops[k] (List.getElem_mem _)
        have HT := tot_take_succ ops k hlt
        have HR := tot_rest ops (k + 1) (by omega)
        generalize ops[k] = o at *
        obtain ⟨T, hT⟩ : ∃ T, T = ops.length - k + tot (ops.take k) := ⟨_, rfl⟩
        rw [← hT] at hle ⊢
        have HS : Hid (ops.length - (k + 1) + tot (ops.take (k + 1)) = T + o.s.size + o.t.size) := by show _ = _; omega
        have HR2 : Hid (ops.length - (k + 1) + tot (ops.take (k + 1)) ≤ tot ops) := by show _ ≤ _; omega
        clear HT HR hT hS hc
        go_wp2_with fail
        go_quiet (fail)
        go_wp2
        · have hgt : (1048576 : Int) < (T : Int) + (o.s.size : Int) + (o.t.size : Int) := by assumption
          go_ret
          refine ⟨?_, _, rfl⟩
          have hd : decide (tot ops ≤ 1048576) = false := by have h1 := HS.out; have h2 := HR2.out; simp; omega
          rw [hd]; rfl
        · go_roundw
          case rel => exact ⟨k + 1, _, by omega, by go_num, by rw [HS.out]; go_num, by rw [HS.out]; omega, rfl⟩
          case measure => simp [intOf]; omega
      · obtain rfl : k = ops.length := by omega
        rw [List.take_length] at hle
        have HD : Hid (decide (tot ops ≤ 1048576) = true) := by show decide _ = true; simp; omega
        clear hle hc hS
        go_wp2
        go_ret
        exact ⟨by rw [HD.out]; rfl, _, rfl⟩
end Go.Proofs.YtibofakbhgmhiabGreatDoor
