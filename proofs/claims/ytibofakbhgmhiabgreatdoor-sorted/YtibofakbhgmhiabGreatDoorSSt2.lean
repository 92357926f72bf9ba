import Derived.Test.YtibofakbhgmhiabGreatDoorSMa
import Derived.Deep.RegionWith
namespace Go.Proofs.YtibofakbhgmhiabGreatDoor
open Go.RowKit

theorem Tryz.infoPair : (Tryz.prog.info? 56).map (fun i => (i.zero, i.size, i.bytes)) = some (some (.agg #[.string ⟨#[]⟩, .string ⟨#[]⟩]), 2, 32) := by kernel_rfl

def pk (c : Int) : Nat := ((if c < 0 then -(c + 1) else c) % 8).toNat
theorem pk_lt (c : Int) : pk c < 8 := by unfold pk; omega
theorem pick8 (c : Int) (w : World) (h1 : -9223372036854775808 ≤ c) (h2 : c ≤ 9223372036854775807) :
    Calls Tryz.prog 19 #[.int .i64 c, .int .i64 8] w fun e w' => e = .returned (.int .i64 (pk c)) ∧ w' = w := by
  by_cases hc : c < 0
  · have e : ((pk c : Nat) : Int) = -(c + 1).tmod 8 := by
      unfold pk; rw [if_pos hc]
      obtain ⟨n, hn⟩ : ∃ n : Int, n = -(c + 1) := ⟨_, rfl⟩
      rw [← hn, show c + 1 = -n by omega, Int.neg_tmod, Int.neg_neg, Int.tmod_eq_emod_of_nonneg (by omega)]
      omega
    rw [e]
    go_enter Tryz.func19, Tryz.ntmps19
    go_wp2
    go_ret
    exact ⟨rfl, rfl⟩
  · have e : ((pk c : Nat) : Int) = c % 8 := by unfold pk; rw [if_neg hc]; omega
    rw [e]
    have hc' : 0 ≤ c := by omega
    go_enter Tryz.func19, Tryz.ntmps19
    go_wp2
    go_ret
    exact ⟨rfl, rfl⟩

set_option maxHeartbeats 2000000 in
set_option maxRecDepth 100000 in
theorem step_pair (Wb : Nat) (A B C : Int) (s t : ByteArray) (w : World) (rr : List (List Int)) (N : Nat) (K : KHas Wb w rr N) (hN : N ≤ 1048576) :
    Calls Tryz.prog 11 #[.pointer (some ⟨Wb, 0, none⟩), opV 5 A B C s t] w fun e w' => e = .returned (.bool true) ∧ KHas Wb w' rr (N + 1) ∧ Below Wb w w' := by
  obtain ⟨cs, ev, pv, rv, ne, np, xe, xp, xr, K⟩ := K
  obtain ⟨i0, hi, hz0, hz1, hz2⟩ := info_parts Tryz.infoPair
  have hb0 : Below w.heap.size w (w.alloc (.cells #[.int .i64 5, .int .i64 A, .int .i64 B, .int .i64 C, .string s, .string t] 45)) := (Below.refl _ _).alloc (Nat.le_refl _) _
  have K1 := K.grown hb0
  have K2 := K1.grown ((Below.refl _ _).alloc (Nat.le_refl _) (.cells #[.string s, .string t] 56))
  have c9 := (K1.cell 9).trans K1.e9
  have f9 := K1.frozen 9
  have c9' := (K2.cell 9).trans K2.e9
  have f9' := K2.frozen 9
  have HO : Hid ((((w.alloc (.cells #[.int .i64 5, .int .i64 A, .int .i64 B, .int .i64 C, .string s, .string t] 45)).alloc (.cells #[.string s, .string t] 56)).drew).ownsRow Wb 56 2 pv np xp) := K2.op
  have HN : Hid (∀ (j : Nat) (u : Value), [Value.string s, .string t][j]? = some u → (((w.alloc (.cells #[.int .i64 5, .int .i64 A, .int .i64 B, .int .i64 C, .string s, .string t] 45)).alloc (.cells #[.string s, .string t] 56)).drew).cell? ((⟨w.heap.size + 1, 0, none⟩ : Addr).add j) = some u) := by
    intro j u hj
    have e : (⟨w.heap.size + 1, 0, none⟩ : Addr).add j = ⟨w.heap.size + 1, j, none⟩ := by unfold Addr.add; split <;> simp_all
    rw [e]
    show ((w.alloc _).alloc _).cell? _ = _
    rw [World.cell?_alloc_at _ _ _ _ (by simp)]
    rcases j with _ | _ | j
    · simpa using hj
    · simpa using hj
    · simp at hj
  have H1 : Hid (∀ u ∈ [Value.string s, .string t], u.oneCell' = true) := by
    intro u hu; simp at hu; rcases hu with rfl | rfl <;> rfl
  have HK : Hid (∀ w2, (((w.alloc (.cells #[.int .i64 5, .int .i64 A, .int .i64 B, .int .i64 C, .string s, .string t] 45)).alloc (.cells #[.string s, .string t] 56)).drew).grownBy w2 pv.ownBlock → w2.cell? ⟨Wb, 9, none⟩ = some pv ∧ w2.frozen? ⟨Wb, 9, none⟩ = false) := by
    intro w2 hg
    have e : w2.heap[Wb]? = some (.cells cs 43 (0, 0)) := by
      rw [hg.block Wb (K2.lt) (fun e => row_ne' K2.op K2.blk (by decide) e.symm)]; exact K2.blk
    have c := K2.e9
    exact ⟨by simpa [World.cell?, e] using c, by simp [World.frozen?, e]⟩
  have hz : (((w.alloc (.cells #[.int .i64 5, .int .i64 A, .int .i64 B, .int .i64 C, .string s, .string t] 45)).alloc (.cells #[.string s, .string t] 56)).drew).heap.size = w.heap.size + 2 := by simp [World.drew]
  have HZ : Hid ((((w.alloc (.cells #[.int .i64 5, .int .i64 A, .int .i64 B, .int .i64 C, .string s, .string t] 45)).alloc (.cells #[.string s, .string t] 56)).drew).heap.size = w.heap.size + 2) := hz
  have HFIN : Hid (∀ g cap w2, World.ownsRow w2 Wb 56 2 (.slice (some ⟨g, 0, none⟩) (np + 1) cap) (np + 1) (xp ++ [.string s, .string t]) → (((w.alloc (.cells #[.int .i64 5, .int .i64 A, .int .i64 B, .int .i64 C, .string s, .string t] 45)).alloc (.cells #[.string s, .string t] 56)).drew).grownBy w2 pv.ownBlock → KHas Wb (w2.setCell ⟨Wb, 9, none⟩ (.slice (some ⟨g, 0, none⟩) (np + 1) cap)) rr (N + 1) ∧ Below Wb w (w2.setCell ⟨Wb, 9, none⟩ (.slice (some ⟨g, 0, none⟩) (np + 1) cap))) := by
    intro g cap w2 ho hg
    have K3 := K2.grown (Below.refl _ _).drew
    have := K3.put9 (v := .slice (some ⟨g, 0, none⟩) (np + 1) cap) (w2 := w2) ho hg (by have := K.lp; omega)
    exact ⟨this.1, (hb0.mono (Nat.le_of_lt K.lt)).trans ((((Below.refl _ _).alloc (by have := K.lt; simp; omega) _).drew).trans this.2)⟩
  have hlp := K.lp
  have hlt := K.lt
  clear hz K K1 K2
  go_enter Tryz.func11, Tryz.ntmps11
  go_wp2_with fail
  go_region_law (refine step_append_lies _ rfl (.tmp 52) (.tmp 58) 32 rfl Wb 56 i0 (.agg #[.string ⟨#[]⟩, .string ⟨#[]⟩]) 2 32 Tryz.underlying32 hi hz0 hz1 hz2 rfl (by decide) pv np xp (by simp [Act.eval]) HO.out ⟨w.heap.size + 1, 0, none⟩ 1 1 [.string s, .string t] (by simp [Act.eval]) rfl HN.out H1.out (by decide) (by unfold maxLen; omega) (by omega) (by rw [HZ.out]; omega) (w.heap.size + 2) HZ.out ?_; intro g cap w2 hown2 hg2 hgg hlt2; obtain ⟨d9, e9⟩ := HK.out w2 hg2)
  all_goals
    go_wp2
    go_ret
    exact ⟨rfl, HFIN.out _ _ _ hown2 hg2⟩

theorem Tryz.infoEvent : (Tryz.prog.info? 64).map (fun i => (i.zero, i.size, i.bytes)) = some (some (.agg #[.int .i64 0, .int .i64 0, .int .i64 0]), 3, 24) := by kernel_rfl

set_option maxHeartbeats 2000000 in
set_option maxRecDepth 100000 in
theorem step_event (Wb : Nat) (A B C : Int) (s t : ByteArray) (w : World) (rr : List (List Int)) (N : Nat) (K : KHas Wb w rr N) (hN : N ≤ 1048576) :
    Calls Tryz.prog 11 #[.pointer (some ⟨Wb, 0, none⟩), opV 2 A B C s t] w fun e w' => e = .returned (.bool true) ∧ KHas Wb w' rr (N + 1) ∧ Below Wb w w' := by
  obtain ⟨cs, ev, pv, rv, ne, np, xe, xp, xr, K⟩ := K
  obtain ⟨i0, hi, hz0, hz1, hz2⟩ := info_parts Tryz.infoEvent
  have hb0 : Below w.heap.size w (w.alloc (.cells #[.int .i64 2, .int .i64 A, .int .i64 B, .int .i64 C, .string s, .string t] 45)) := (Below.refl _ _).alloc (Nat.le_refl _) _
  have K1 := K.grown hb0
  have K2 := K1.grown ((Below.refl _ _).alloc (Nat.le_refl _) (.cells #[.int .i64 A, .int .i64 B, .int .i64 C] 64))
  have c9 := (K1.cell 8).trans K1.e8
  have f9 := K1.frozen 8
  have c9' := (K2.cell 8).trans K2.e8
  have f9' := K2.frozen 8
  have HO : Hid ((((w.alloc (.cells #[.int .i64 2, .int .i64 A, .int .i64 B, .int .i64 C, .string s, .string t] 45)).alloc (.cells #[.int .i64 A, .int .i64 B, .int .i64 C] 64)).drew).ownsRow Wb 64 3 ev ne xe) := K2.oe
  have HN : Hid (∀ (j : Nat) (u : Value), [Value.int .i64 A, .int .i64 B, .int .i64 C][j]? = some u → (((w.alloc (.cells #[.int .i64 2, .int .i64 A, .int .i64 B, .int .i64 C, .string s, .string t] 45)).alloc (.cells #[.int .i64 A, .int .i64 B, .int .i64 C] 64)).drew).cell? ((⟨w.heap.size + 1, 0, none⟩ : Addr).add j) = some u) := by
    intro j u hj
    have e : (⟨w.heap.size + 1, 0, none⟩ : Addr).add j = ⟨w.heap.size + 1, j, none⟩ := by unfold Addr.add; split <;> simp_all
    rw [e]
    show ((w.alloc _).alloc _).cell? _ = _
    rw [World.cell?_alloc_at _ _ _ _ (by simp)]
    rcases j with _ | _ | _ | j
    · simpa using hj
    · simpa using hj
    · simpa using hj
    · simp at hj
  have H1 : Hid (∀ u ∈ [Value.int .i64 A, .int .i64 B, .int .i64 C], u.oneCell' = true) := by
    intro u hu; simp at hu; rcases hu with rfl | rfl | rfl <;> rfl
  have HK : Hid (∀ w2, (((w.alloc (.cells #[.int .i64 2, .int .i64 A, .int .i64 B, .int .i64 C, .string s, .string t] 45)).alloc (.cells #[.int .i64 A, .int .i64 B, .int .i64 C] 64)).drew).grownBy w2 ev.ownBlock → w2.cell? ⟨Wb, 8, none⟩ = some ev ∧ w2.frozen? ⟨Wb, 8, none⟩ = false) := by
    intro w2 hg
    have e : w2.heap[Wb]? = some (.cells cs 43 (0, 0)) := by
      rw [hg.block Wb (K2.lt) (fun e => row_ne' K2.oe K2.blk (by decide) e.symm)]; exact K2.blk
    have c := K2.e8
    exact ⟨by simpa [World.cell?, e] using c, by simp [World.frozen?, e]⟩
  have hz : (((w.alloc (.cells #[.int .i64 2, .int .i64 A, .int .i64 B, .int .i64 C, .string s, .string t] 45)).alloc (.cells #[.int .i64 A, .int .i64 B, .int .i64 C] 64)).drew).heap.size = w.heap.size + 2 := by simp [World.drew]
  have HZ : Hid ((((w.alloc (.cells #[.int .i64 2, .int .i64 A, .int .i64 B, .int .i64 C, .string s, .string t] 45)).alloc (.cells #[.int .i64 A, .int .i64 B, .int .i64 C] 64)).drew).heap.size = w.heap.size + 2) := hz
  have HFIN : Hid (∀ g cap w2, World.ownsRow w2 Wb 64 3 (.slice (some ⟨g, 0, none⟩) (ne + 1) cap) (ne + 1) (xe ++ [.int .i64 A, .int .i64 B, .int .i64 C]) → (((w.alloc (.cells #[.int .i64 2, .int .i64 A, .int .i64 B, .int .i64 C, .string s, .string t] 45)).alloc (.cells #[.int .i64 A, .int .i64 B, .int .i64 C] 64)).drew).grownBy w2 ev.ownBlock → KHas Wb (w2.setCell ⟨Wb, 8, none⟩ (.slice (some ⟨g, 0, none⟩) (ne + 1) cap)) rr (N + 1) ∧ Below Wb w (w2.setCell ⟨Wb, 8, none⟩ (.slice (some ⟨g, 0, none⟩) (ne + 1) cap))) := by
    intro g cap w2 ho hg
    have K3 := K2.grown (Below.refl _ _).drew
    have := K3.put8 (v := .slice (some ⟨g, 0, none⟩) (ne + 1) cap) (w2 := w2) ho hg (by have := K.le; omega)
    exact ⟨this.1, (hb0.mono (Nat.le_of_lt K.lt)).trans ((((Below.refl _ _).alloc (by have := K.lt; simp; omega) _).drew).trans this.2)⟩
  have hlp := K.le
  have hlt := K.lt
  clear hz K K1 K2
  go_enter Tryz.func11, Tryz.ntmps11
  go_wp2_with fail
  go_region_law (refine step_append_lies _ rfl (.tmp 24) (.tmp 32) 31 rfl Wb 64 i0 (.agg #[.int .i64 0, .int .i64 0, .int .i64 0]) 3 24 Tryz.underlying31 hi hz0 hz1 hz2 rfl (by decide) ev ne xe (by simp [Act.eval]) HO.out ⟨w.heap.size + 1, 0, none⟩ 1 1 [.int .i64 A, .int .i64 B, .int .i64 C] (by simp [Act.eval]) rfl HN.out H1.out (by decide) (by unfold maxLen; omega) (by omega) (by rw [HZ.out]; omega) (w.heap.size + 2) HZ.out ?_; intro g cap w2 hown2 hg2 hgg hlt2; obtain ⟨d9, e9⟩ := HK.out w2 hg2)
  all_goals
    go_wp2
    go_ret
    exact ⟨rfl, HFIN.out _ _ _ hown2 hg2⟩

set_option maxHeartbeats 2000000 in
set_option maxRecDepth 100000 in
theorem step_num (Wb : Nat) (A B C : Int) (s t : ByteArray) (w : World) (rr : List (List Int)) (N : Nat) (K : KHas Wb w rr N) (h1 : -9223372036854775808 ≤ A) (h2 : A ≤ 9223372036854775807) :
    Calls Tryz.prog 11 #[.pointer (some ⟨Wb, 0, none⟩), opV 1 A B C s t] w fun e w' => e = .returned (.bool true) ∧ KHas Wb w' rr N ∧ Below Wb w w' := by
  obtain ⟨cs, ev, pv, rv, ne, np, xe, xp, xr, K⟩ := K
  have hb0 : Below w.heap.size w (w.alloc (.cells #[.int .i64 1, .int .i64 A, .int .i64 B, .int .i64 C, .string s, .string t] 45)) := (Below.refl _ _).alloc (Nat.le_refl _) _
  have K1 := K.grown hb0
  have hp := pk_lt A
  have hpk : Hid (∀ W, Calls Tryz.prog 19 #[.int .i64 A, .int .i64 8] W fun e w' => e = .returned (.int .i64 (pk A)) ∧ w' = W) := fun W => pick8 A W h1 h2
  generalize pk A = j at *
  obtain ⟨u, hu⟩ : ∃ u, cs[j]? = some u := ⟨cs[j]'(by have := K.size; omega), Array.getElem?_eq_getElem _⟩
  have cj := (K1.cell j).trans hu
  have fj := K1.frozen j
  have hj2 : (j : Int) < 8 := by omega
  have HFIN : Hid (KHas Wb (((w.setCell ⟨Wb, j, none⟩ (.int .i64 B)).alloc (.cells #[.int .i64 1, .int .i64 A, .int .i64 B, .int .i64 C, .string s, .string t] 45)).drew) rr N ∧ Below Wb w (((w.setCell ⟨Wb, j, none⟩ (.int .i64 B)).alloc (.cells #[.int .i64 1, .int .i64 A, .int .i64 B, .int .i64 C, .string s, .string t] 45)).drew)) := by
    obtain ⟨hk, hb⟩ := K.putNum j hp (.int .i64 B)
    obtain ⟨cs', ev', pv', rv', ne', np', xe', xp', xr', K'⟩ := hk
    exact ⟨⟨cs', ev', pv', rv', ne', np', xe', xp', xr', K'.grown (((Below.refl _ _).alloc (Nat.le_refl _) _).drew)⟩, (hb.alloc (Nat.le_of_lt K'.lt) _).drew⟩
  have hlt := K.lt
  clear K K1 hu h1 h2
  go_enter Tryz.func11, Tryz.ntmps11
  go_wp2_with fail
  go_region_with (go_at_call 19; refine (hpk.out _).mono ?_; rintro e w' ⟨rfl, rfl⟩)
  all_goals
    go_wp2
    go_ret
    exact ⟨rfl, HFIN.out⟩
end Go.Proofs.YtibofakbhgmhiabGreatDoor
