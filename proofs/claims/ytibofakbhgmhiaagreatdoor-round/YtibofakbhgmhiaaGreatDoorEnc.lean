import Derived.Test.YtibofakbhgmhiaaGreatDoorAppR
import Derived.Laws.IdiomStrings
import Derived.Laws.BytesArg
namespace Go.Proofs.YtibofakbhgmhiaaGreatDoor
open Go.RowKit Rd

abbrev PS := List (ByteArray × ByteArray)
def bys (ps : PS) : List (Bytes × Bytes) := ps.map fun p => (p.1.data.toList, p.2.data.toList)
def PairsAt (w : World) (v : Value) (ps : PS) : Prop :=
  ∃ a c, v = .slice a ps.length c ∧ ∀ j (h : j < ps.length), ∃ b off, a = some ⟨b, off, none⟩ ∧ w.cell? ⟨b, off + j * 2, none⟩ = some (.string ps[j].1) ∧ w.cell? ⟨b, off + j * 2 + 1, none⟩ = some (.string ps[j].2)

theorem enc_take_le (ps : PS) (k : Nat) : (enc crcN (bys (ps.take k))).length ≤ (enc crcN (bys ps)).length := by
  have : bys ps = bys (ps.take k) ++ bys (ps.drop k) := by
    unfold bys; rw [← List.map_append, List.take_append_drop]
  rw [this, enc_append, List.length_append]; omega
theorem enc_take_succ (ps : PS) (k : Nat) (h : k < ps.length) : enc crcN (bys (ps.take (k + 1))) = enc crcN (bys (ps.take k)) ++ recd crcN ps[k].1.data.toList ps[k].2.data.toList := by
  rw [List.take_succ_eq_append_getElem h]
  unfold bys
  rw [List.map_append, enc_append]
  simp [enc]

theorem own_string {w : World} {B : Nat} {v : Value} {l : List UInt8} (h : w.ownsRow B 5 1 v l.length (bc l)) : (convert 101 9 v).run Tryz.prog w = .ok (.string ⟨l.toArray⟩) w := by
  have h' := h
  rcases h.2 with ⟨rfl, hn⟩ | ⟨g, cap, cur, rfl, _, _, hnc, _⟩
  · have : l = [] := List.length_eq_zero_iff.1 hn
    subst this
    exact run_convert_bytes_nil w 101 5 Tryz.underlying101 Tryz.underlying5 _ _ _ Tryz.underlying9
  · refine run_convert_bytes_back w 101 9 5 ⟨g, 0, none⟩ cap l Tryz.underlying101 Tryz.underlying5 Tryz.underlying9 (fun j hj => ?_)
    exact h'.cells (g := g) rfl j _ (bc_at l j hj)

set_option maxHeartbeats 1000000 in
set_option maxRecDepth 100000 in
theorem encode (ps : PS) (v : Value) (w : World) (hp : PairsAt w v ps) (ht : Tab w) (hG : 12 < w.heap.size) (hn : ps.length ≤ 70368744177664)
    (hE : (enc crcN (bys ps)).length ≤ 35184372088832) (hS : ∀ p ∈ ps, p.1.size ≤ 4294967295 ∧ p.2.size ≤ 4294967295) :
    Calls Tryz.prog 26 #[v] w fun e w' => e = .returned (.string ⟨(enc crcN (bys ps)).toArray⟩) ∧ Below w.heap.size w w' := by
  obtain ⟨a, c, rfl, hc⟩ := hp
  go_enter Tryz.func26, Tryz.ntmps26
  go_wp2_with fail
  go_loopw [3, 8] (fun o i wr => ∃ k : Nat, k ≤ ps.length ∧ i = .int .i64 k ∧ wr.ownsRow w.heap.size 5 1 o (enc crcN (bys (ps.take k))).length (bc (enc crcN (bys (ps.take k)))) ∧ Below w.heap.size w wr) (fun _ i _ => ps.length - (intOf i).toNat)
  case atStart => exact ⟨0, Nat.zero_le _, rfl, World.ownsRow_nil _ _ _ _, Below.refl _ _⟩
  case round =>
    obtain ⟨k, hk, rfl, hown, hb⟩ := hrel
    have hsz := hb.size
    by_cases hlt : k < ps.length
    · obtain ⟨b, off, rfl, h1, h2⟩ := hc k hlt
      have hbl : b < w.heap.size := World.block_lt_of_cell? w ⟨b, off + k * 2, none⟩ h1
      have g1 : wr.cell? ⟨b, off + k * 2, none⟩ = some (.string ps[k].1) := by rw [hb.cell (p := ⟨b, off + k * 2, none⟩) hbl]; exact h1
      have g2 : wr.cell? ⟨b, off + k * 2 + 1, none⟩ = some (.string ps[k].2) := by rw [hb.cell (p := ⟨b, off + k * 2 + 1, none⟩) hbl]; exact h2
      have hL := enc_take_le ps k
      have hz := hS ps[k] (List.getElem_mem _)
      have HT : Hid (enc crcN (bys (ps.take (k + 1))) = enc crcN (bys (ps.take k)) ++ recd crcN ps[k].1.data.toList ps[k].2.data.toList) := enc_take_succ ps k hlt
      have ht1 := ht.below hb hG
      generalize ps[k] = pk at *
      generalize enc crcN (bys (ps.take k)) = l at *
      clear hc h1 h2 hS
      go_wp2_with fail
      refine (appendRecord w.heap.size _ l pk.1 pk.2 _ (hown.alloc _) (by simp; omega) hG (by omega) hz.1 hz.2 (ht.below (hb.alloc hsz _) hG)).mono ?_
      rintro e w2 ⟨v2, rfl, hown2, hb2⟩
      have hb3 := (hb.alloc hsz (.cells #[.string pk.1, .string pk.2] 32)).trans hb2
      clear hown g1 g2 hb2 ht1
      go_wp2
      go_roundw
      case rel => exact ⟨k + 1, by omega, by go_num, by rw [HT.out]; exact hown2, hb3⟩
      case measure => simp [intOf]; omega
    · obtain rfl : k = ps.length := by omega
      rw [List.take_length] at hown
      have hcv := own_string hown
      clear hown hc hS
      go_wp2
      go_ret
      exact ⟨rfl, hb⟩

set_option maxHeartbeats 1000000 in
theorem pencode (ps : PS) (v : Value) (w : World) (hp : PairsAt w v ps) (ht : Tab w) (hG : 12 < w.heap.size) (hn : ps.length ≤ 70368744177664)
    (hE : (enc crcN (bys ps)).length ≤ 35184372088832) (hS : ∀ p ∈ ps, p.1.size ≤ 4294967295 ∧ p.2.size ≤ 4294967295) :
    Calls Tryz.prog 20 #[v] w fun e w' => e = .returned (.string ⟨(enc crcN (bys ps)).toArray⟩) ∧ Below w.heap.size w w' := by
  go_enter Tryz.func20, Tryz.ntmps20
  go_wp2_with fail
  refine (encode ps v _ hp ht hG hn hE hS).mono ?_
  rintro e w2 ⟨rfl, hb⟩
  go_wp2
  go_ret
  exact ⟨rfl, hb⟩
end Go.Proofs.YtibofakbhgmhiaaGreatDoor
