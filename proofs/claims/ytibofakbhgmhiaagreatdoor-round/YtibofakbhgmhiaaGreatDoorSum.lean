import Derived.Test.YtibofakbhgmhiaaGreatDoorProg
import Derived.Test.YtibofakbhgmhiaaGreatDoorSumMath
import Derived.WalkKit
import Derived.WalkLawsBesides
import Derived.Below
namespace Go.Proofs.YtibofakbhgmhiaaGreatDoor
open Go.RowKit

def Tab (w : World) : Prop := ∀ j, j < 16 → w.cell? ⟨12, j, none⟩ = some (.int .u32 (tabAt j))

theorem Tab.below {w w' : World} (h : Tab w) {B : Nat} (hb : Below B w w') (hB : 12 < B) : Tab w' := fun j hj => by
  rw [hb.cell (p := ⟨12, j, none⟩) hB]; exact h j hj

set_option maxHeartbeats 1000000 in
theorem sumStr (s : ByteArray) (w : World) (hs : s.size ≤ maxLen) (ht : Tab w) :
    Calls Tryz.prog 248 #[.string s] w fun e w' => e = .returned (.int .u32 (crcN s.data.toList)) ∧ w' = w := by
  unfold maxLen at hs
  go_enter Tryz.func248, Tryz.ntmps248
  go_wp2
  go_loop [3, 7] (fun x i => ∃ k : Nat, k ≤ s.size ∧ i = .int .i64 k ∧ x = .int .u32 (foldB (s.data.toList.take k))) (fun _ i => s.size - (intOf i).toNat)
  case atStart => exact ⟨0, Nat.zero_le _, rfl, rfl⟩
  case round =>
    obtain ⟨k, hk, rfl, rfl⟩ := hrel
    have hx := foldB_lt (s.data.toList.take k)
    obtain ⟨x, hxe⟩ : ∃ x, x = foldB (s.data.toList.take k) := ⟨_, rfl⟩
    rw [← hxe] at hx ⊢
    have Hx : Hid (x = foldB (s.data.toList.take k)) := hxe
    clear hxe
    by_cases hlt : k < s.size
    · have hb := s[k].toNat_lt
      obtain ⟨y, hy⟩ : ∃ y, y = x ^^^ s[k].toNat := ⟨_, rfl⟩
      have hyl : y < 4294967296 := by rw [hy]; exact xor_lt hx (by omega)
      have h1 : bits .xor .u32 (x : Int) (s[k].toNat : Int) = (y : Int) := by rw [byte_xor _ hx, hy]
      have h2 := nib_and hyl
      have h3 := nib_xor hyl
      have hjl : y % 16 < 16 := by omega
      have htj := ht _ hjl
      have hzl := nib_lt hyl
      obtain ⟨z, hz⟩ : ∃ z, z = nib y := ⟨_, rfl⟩
      rw [← hz] at h3 hzl
      have h4 := nib_and hzl
      have h5 := nib_xor hzl
      have hil : z % 16 < 16 := by omega
      have hti := ht _ hil
      obtain ⟨j, hj⟩ : ∃ j, j = y % 16 := ⟨_, rfl⟩
      obtain ⟨i, hi⟩ : ∃ i, i = z % 16 := ⟨_, rfl⟩
      rw [← hj] at h2 h3 hjl htj
      rw [← hi] at h4 h5 hil hti
      have HV : Hid (nib z = foldB (s.data.toList.take (k + 1))) := by
        rw [List.take_succ_eq_append_getElem (by simpa using hlt), foldB_snoc, ← Hx.out, hz, hy]; rfl
      generalize tabAt j = tj at *
      generalize tabAt i = ti at *
      generalize nib z = v at *
      clear hy hz hj hi
      go_wp2
      go_round
      case rel => exact ⟨k + 1, by omega, by go_num, by rw [HV.out]⟩
      case measure => simp [intOf]; omega
    · have hf : Hid (x = foldB s.data.toList) := by rw [Hx.out, List.take_of_length_le (by simp; omega)]; trivial
      have hn := turned hx
      go_wp2
      go_ret
      refine ⟨?_, rfl⟩
      have e : crcN s.data.toList = 4294967295 - x := by unfold crcN; rw [hf.out]
      rw [e]; rfl

set_option maxHeartbeats 1000000 in
theorem sumBytes (l : List UInt8) (b off c : Nat) (w : World) (hl : l.length ≤ 281474976710656) (ht : Tab w)
    (hc : ∀ j (h : j < l.length), w.cell? ⟨b, off + j, none⟩ = some (.int .u8 (l[j].toNat))) :
    Calls Tryz.prog 107 #[.slice (some ⟨b, off, none⟩) l.length c] w fun e w' => e = .returned (.int .u32 (crcN l)) ∧ w' = w := by
  go_enter Tryz.func107, Tryz.ntmps107
  go_wp2
  go_loop [3, 7] (fun x i => ∃ k : Nat, k ≤ l.length ∧ i = .int .i64 k ∧ x = .int .u32 (foldB (l.take k))) (fun _ i => l.length - (intOf i).toNat)
  case atStart => exact ⟨0, Nat.zero_le _, rfl, rfl⟩
  case round =>
    obtain ⟨k, hk, rfl, rfl⟩ := hrel
    have hx := foldB_lt (l.take k)
    obtain ⟨x, hxe⟩ : ∃ x, x = foldB (l.take k) := ⟨_, rfl⟩
    rw [← hxe] at hx ⊢
    have Hx : Hid (x = foldB (l.take k)) := hxe
    clear hxe
    by_cases hlt : k < l.length
    · have hck := hc k hlt
      obtain ⟨bt, hbt⟩ : ∃ bt, bt = l[k] := ⟨_, rfl⟩
      rw [← hbt] at hck
      have hb := bt.toNat_lt
      obtain ⟨y, hy⟩ : ∃ y, y = x ^^^ bt.toNat := ⟨_, rfl⟩
      have hyl : y < 4294967296 := by rw [hy]; exact xor_lt hx (by omega)
      have h1 : bits .xor .u32 (x : Int) (bt.toNat : Int) = (y : Int) := by rw [byte_xor _ hx, hy]
      have h2 := nib_and hyl
      have h3 := nib_xor hyl
      have hjl : y % 16 < 16 := by omega
      have htj := ht _ hjl
      have hzl := nib_lt hyl
      obtain ⟨z, hz⟩ : ∃ z, z = nib y := ⟨_, rfl⟩
      rw [← hz] at h3 hzl
      have h4 := nib_and hzl
      have h5 := nib_xor hzl
      have hil : z % 16 < 16 := by omega
      have hti := ht _ hil
      obtain ⟨j, hj⟩ : ∃ j, j = y % 16 := ⟨_, rfl⟩
      obtain ⟨i, hi⟩ : ∃ i, i = z % 16 := ⟨_, rfl⟩
      rw [← hj] at h2 h3 hjl htj
      rw [← hi] at h4 h5 hil hti
      have HV : Hid (nib z = foldB (l.take (k + 1))) := by
        rw [List.take_succ_eq_append_getElem hlt, foldB_snoc, ← Hx.out, hz, hy, hbt]; rfl
      generalize tabAt j = tj at *
      generalize tabAt i = ti at *
      generalize nib z = v at *
      clear hy hz hj hi hbt hc
      go_wp2
      go_round
      case rel => exact ⟨k + 1, by omega, by go_num, by rw [HV.out]⟩
      case measure => simp [intOf]; omega
    · have hf : Hid (x = foldB l) := by rw [Hx.out, List.take_of_length_le (by omega)]; trivial
      have hn := turned hx
      go_wp2
      go_ret
      refine ⟨?_, rfl⟩
      have e : crcN l = 4294967295 - x := by unfold crcN; rw [hf.out]
      rw [e]; rfl
end Go.Proofs.YtibofakbhgmhiaaGreatDoor
