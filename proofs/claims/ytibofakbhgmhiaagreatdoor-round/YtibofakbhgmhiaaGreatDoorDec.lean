import Derived.Test.YtibofakbhgmhiaaGreatDoorCut3
import Derived.Test.YtibofakbhgmhiaaGreatDoorEnc
namespace Go.Proofs.YtibofakbhgmhiaaGreatDoor
open Go.RowKit Rd

theorem bytes_eq {a b : ByteArray} (h : a.data.toList = b.data.toList) : a = b := WideShapes.bytes_inj h
theorem extract_list (t : ByteArray) (i j : Nat) : (t.extract i j).data.toList = (t.data.toList.drop i).take (j - i) := by
  simp [ByteArray.data_extract]

theorem cut_err (a : Nat → Addr) (t : ByteArray) (w : World) (c : Nat) (S : Sents w a) (hT : Tab w) (hG : 12 < w.heap.size) (htl : t.size ≤ 70368744177664) (hc : cut crcN t.data.toList = .error c) :
    (c = 2 ∨ c = 3) ∧ Calls Tryz.prog 195 #[.string t] w fun e w' => e = .returned (.tuple #[noneE, .string ⟨#[]⟩, .iface 513 (.pointer (some (a (c - 1))))]) ∧ Below w.heap.size w w' := by
  have hlen : t.data.toList.length = t.size := by simp
  unfold cut at hc
  rw [hlen] at hc
  split at hc
  · rename_i h1
    injection hc with hc; subst hc
    exact ⟨.inl rfl, cutShort1 a t w S h1⟩
  split at hc
  · rename_i h1 h2
    injection hc with hc; subst hc
    exact ⟨.inl rfl, cutShort2 a t w S (by omega) htl h2⟩
  split at hc
  · rename_i h1 h2 h3
    injection hc with hc; subst hc
    exact ⟨.inr rfl, cutSum a t w S hT hG (by omega) htl (by omega) h3⟩
  · cases hc

theorem cut_ok (t k v r : ByteArray) (w : World) (hT : Tab w) (hG : 12 < w.heap.size) (htl : t.size ≤ 70368744177664) (hc : cut crcN t.data.toList = .ok ((k.data.toList, v.data.toList), r.data.toList)) :
    Calls Tryz.prog 195 #[.string t] w fun e w' => e = .returned (.tuple #[.agg #[.string k, .string v], .string r, .nilIface]) ∧ Below w.heap.size w w' := by
  have hlen : t.data.toList.length = t.size := by simp
  unfold cut at hc
  rw [hlen] at hc
  split at hc
  · cases hc
  split at hc
  · cases hc
  split at hc
  · cases hc
  rename_i h1 h2 h3
  simp only [Except.ok.injEq, Prod.mk.injEq] at hc
  obtain ⟨⟨e1, e2⟩, e3⟩ := hc
  have q1 : t.extract 8 (8 + rd4 t.data.toList 0) = k := bytes_eq (by rw [extract_list, ← e1]; congr 1; omega)
  have q2 : t.extract (8 + rd4 t.data.toList 0) (8 + rd4 t.data.toList 0 + rd4 t.data.toList 4) = v := bytes_eq (by rw [extract_list, ← e2]; congr 1; omega)
  have q3 : t.extract (8 + rd4 t.data.toList 0 + rd4 t.data.toList 4 + 4) t.size = r := bytes_eq (by rw [extract_list, ← e3, List.take_of_length_le (by simp)])
  have := cutOk t w hT hG (by omega) htl (by omega) (by simpa using h3)
  rw [q1, q2, q3] at this
  exact this
end Go.Proofs.YtibofakbhgmhiaaGreatDoor
