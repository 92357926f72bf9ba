import Derived.Test.YtibofakbhgmhiaaGreatDoorSum
import Derived.Test.YtibofakbhgmhiaaGreatDoorRMath
import Derived.Lib.AppendStr
namespace Go.Proofs.YtibofakbhgmhiaaGreatDoor
open Go.RowKit Rd

def bc (l : List UInt8) : List Value := l.map fun b => Value.int .u8 b.toNat
theorem bc_length (l : List UInt8) : (bc l).length = l.length := by simp [bc]
theorem bc_append (a b : List UInt8) : bc (a ++ b) = bc a ++ bc b := by simp [bc]
theorem bc_at (l : List UInt8) (j : Nat) (h : j < l.length) : (bc l)[j]? = some (.int .u8 (l[j].toNat)) := by simp [bc, h]
theorem bc_str (s : ByteArray) : Lib.strCells s = bc s.data.toList := rfl
theorem bc_be4 (n : Nat) : bc (be4 n) = [.int .u8 ((n / 16777216 % 256 : Nat) : Int), .int .u8 ((n / 65536 % 256 : Nat) : Int), .int .u8 ((n / 256 % 256 : Nat) : Int), .int .u8 ((n % 256 : Nat) : Int)] := by
  simp [bc, be4]

theorem Tryz.infoU8 : (Tryz.prog.info? 5).map (fun i => (i.zero, i.size, i.bytes)) = some (some (.int .u8 0), 1, 1) := by kernel_rfl

theorem grownBy_trans_alloc {w w' : World} {o : Obj} {row : Option Nat} (h : (w.alloc o).grownBy w' row) : w.grownBy w' row :=
  ⟨h.os, h.tape, h.output, by have := h.size; simp at this; omega, fun k hk hne => (h.block k (by simp; omega) hne).trans (Below.heap_alloc w o k hk)⟩

set_option maxHeartbeats 1000000 in
theorem appendNumber (B : Nat) (v : Value) (l : List UInt8) (N : Nat) (w : World) (hown : w.ownsRow B 5 1 v l.length (bc l)) (hB : B ≤ w.heap.size)
    (hl : l.length ≤ 70368744177664) (hN : N < 4294967296) :
    Calls Tryz.prog 106 #[v, .int .u32 N] w fun e w' => ∃ v', e = .returned v' ∧ w'.ownsRow B 5 1 v' (l ++ be4 N).length (bc (l ++ be4 N)) ∧ w.grownBy w' v.ownBlock := by
  obtain ⟨i0, hi, hz0, hz1, hz2⟩ := info_parts Tryz.infoU8
  go_enter Tryz.func106, Tryz.ntmps106
  go_wp2_with (at_builtin; refine wpList_append_own _ rfl (.tmp 5) (.tmp 17) 101 rfl B 5 i0 (.int .u8 0) 1 1 Tryz.underlying101 hi hz0 hz1 hz2 rfl (by decide) _ _ _ rfl (hown.alloc _) ⟨w.heap.size, 0, none⟩ 4 4 (bc (be4 N)) rfl rfl ?c1 ?c2 ?c3 ?c4 ?c5 ?_)
  case c1 =>
    intro j u hj
    have e : (⟨w.heap.size, 0, none⟩ : Addr).add j = ⟨w.heap.size, j, none⟩ := by unfold Addr.add; split <;> simp_all
    rw [e, World.cell?_alloc_at _ _ _ _ (by simp)]
    rw [bc_be4] at hj
    have hN' : N / 16777216 % 256 = N / 16777216 := by omega
    rw [hN'] at hj
    rcases j with _ | _ | _ | _ | j
    · simpa using hj
    · simpa using hj
    · simpa using hj
    · simpa using hj
    · simp at hj
  case c2 =>
    intro u hu
    simp only [bc, List.mem_map] at hu
    obtain ⟨b, _, rfl⟩ := hu
    rfl
  case c3 => unfold maxLen; omega
  case c4 => omega
  case c5 => simp; omega
  · intro v' w1 hown' hgrow _
    clear hown
    have hg := grownBy_trans_alloc hgrow
    clear hgrow
    go_wp2
    go_ret
    exact ⟨v', rfl, by rw [bc_append, List.length_append]; exact hown', hg⟩
end Go.Proofs.YtibofakbhgmhiaaGreatDoor
