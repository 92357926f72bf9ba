import Derived.Test.YtibofakbhgmhiaaGreatDoorPut
namespace Go.Proofs.YtibofakbhgmhiaaGreatDoor
open Go.RowKit Rd

def pk (c : Int) : Nat := ((if c < 0 then -(c + 1) else c) % 8).toNat
theorem pk_lt (c : Int) : pk c < 8 := by unfold pk; omega
theorem pick8 (c : Int) (w : World) (h1 : -9223372036854775808 ≤ c) (h2 : c ≤ 9223372036854775807) :
    Calls Tryz.prog 30 #[.int .i64 c, .int .i64 8] w fun e w' => e = .returned (.int .i64 (pk c)) ∧ w' = w := by
  by_cases hc : c < 0
  · have e : ((pk c : Nat) : Int) = -(c + 1).tmod 8 := by
      unfold pk; rw [if_pos hc]
      obtain ⟨n, hn⟩ : ∃ n : Int, n = -(c + 1) := ⟨_, rfl⟩
      rw [← hn, show c + 1 = -n by omega, Int.neg_tmod, Int.neg_neg, Int.tmod_eq_emod_of_nonneg (by omega)]
      omega
    rw [e]
    go_enter Tryz.func30, Tryz.ntmps30
    go_wp2
    go_ret
    exact ⟨rfl, rfl⟩
  · have e : ((pk c : Nat) : Int) = c % 8 := by unfold pk; rw [if_neg hc]; omega
    rw [e]
    have hc' : 0 ≤ c := by omega
    go_enter Tryz.func30, Tryz.ntmps30
    go_wp2
    go_ret
    exact ⟨rfl, rfl⟩

set_option maxHeartbeats 2000000 in
set_option maxRecDepth 100000 in
theorem step_pair (Wb : Nat) (A B C : Int) (s t : ByteArray) (w : World) (ps : PS) (N : Nat) (K : KHas Wb w ps N) (hN : N ≤ 1048576) :
    Calls Tryz.prog 23 #[.pointer (some ⟨Wb, 0, none⟩), opV 5 A B C s t] w fun e w' => e = .returned (.bool true) ∧ KHas Wb w' (ps ++ [(s, t)]) (N + 1) ∧ Below Wb w w' := by
  obtain ⟨cs, ev, pv, rv, ne, nr, xe, xr, K⟩ := K
  obtain ⟨i0, hi, hz0, hz1, hz2⟩ := info_parts Tryz.infoPair
  have hb0 : Below w.heap.size w (w.alloc (.cells #[.int .i64 5, .int .i64 A, .int .i64 B, .int .i64 C, .string s, .string t] 53)) := (Below.refl _ _).alloc (Nat.le_refl _) _
  have K1 := K.grown hb0
  have K2 := K1.grown ((Below.refl _ _).alloc (Nat.le_refl _) (.cells #[.string s, .string t] 32))
  have c9 := (K1.cell 9).trans K1.e9
  have f9 := K1.frozen 9
  have c9' := (K2.cell 9).trans K2.e9
  have f9' := K2.frozen 9
  have HO : Hid ((((w.alloc (.cells #[.int .i64 5, .int .i64 A, .int .i64 B, .int .i64 C, .string s, .string t] 53)).alloc (.cells #[.string s, .string t] 32)).drew).ownsRow Wb 32 2 pv ps.length (pc ps)) := K2.op
  have HN : Hid (∀ (j : Nat) (u : Value), [Value.string s, .string t][j]? = some u → (((w.alloc (.cells #[.int .i64 5, .int .i64 A, .int .i64 B, .int .i64 C, .string s, .string t] 53)).alloc (.cells #[.string s, .string t] 32)).drew).cell? ((⟨w.heap.size + 1, 0, none⟩ : Addr).add j) = some u) := by
    intro j u hj
    have e : (⟨w.heap.size + 1, 0, none⟩ : Addr).add j = ⟨w.heap.size + 1, j, none⟩ := by unfold Addr.add; split <;> simp_all
    rw [e]
    show ((w.alloc _).alloc _).cell? _ = _
    rw [World.cell?_alloc_at _ _ _ _ (by simp)]
    rcases j with _ | _ | j
    · simpa using hj
    · simpa using hj
    · simp at hj
  have H1 : Hid (∀ u ∈ [Value.string s, .string t], u.oneCell' = true) := by
    intro u hu; simp at hu; rcases hu with rfl | rfl <;> rfl
  have HK : Hid (∀ w2, (((w.alloc (.cells #[.int .i64 5, .int .i64 A, .int .i64 B, .int .i64 C, .string s, .string t] 53)).alloc (.cells #[.string s, .string t] 32)).drew).grownBy w2 pv.ownBlock → w2.cell? ⟨Wb, 9, none⟩ = some pv ∧ w2.frozen? ⟨Wb, 9, none⟩ = false) := by
    intro w2 hg
    have e : w2.heap[Wb]? = some (.cells cs 51 (0, 0)) := by
      rw [hg.block Wb (K2.lt) (fun e => row_ne' K2.op K2.blk (by decide) e.symm)]; exact K2.blk
    have c := K2.e9
    exact ⟨by simpa [World.cell?, e] using c, by simp [World.frozen?, e]⟩
  have hz : (((w.alloc (.cells #[.int .i64 5, .int .i64 A, .int .i64 B, .int .i64 C, .string s, .string t] 53)).alloc (.cells #[.string s, .string t] 32)).drew).heap.size = w.heap.size + 2 := by simp [World.drew]
  have HZ : Hid ((((w.alloc (.cells #[.int .i64 5, .int .i64 A, .int .i64 B, .int .i64 C, .string s, .string t] 53)).alloc (.cells #[.string s, .string t] 32)).drew).heap.size = w.heap.size + 2) := hz
  have HFIN : Hid (∀ g cap w2, World.ownsRow w2 Wb 32 2 (.slice (some ⟨g, 0, none⟩) (ps.length + 1) cap) (ps.length + 1) (pc ps ++ [.string s, .string t]) → (((w.alloc (.cells #[.int .i64 5, .int .i64 A, .int .i64 B, .int .i64 C, .string s, .string t] 53)).alloc (.cells #[.string s, .string t] 32)).drew).grownBy w2 pv.ownBlock → KHas Wb (w2.setCell ⟨Wb, 9, none⟩ (.slice (some ⟨g, 0, none⟩) (ps.length + 1) cap)) (ps ++ [(s, t)]) (N + 1) ∧ Below Wb w (w2.setCell ⟨Wb, 9, none⟩ (.slice (some ⟨g, 0, none⟩) (ps.length + 1) cap))) := by
    intro g cap w2 ho hg
    have K3 := K2.grown (Below.refl _ _).drew
    have := K3.put9 (ps' := ps ++ [(s, t)]) (v := .slice (some ⟨g, 0, none⟩) (ps.length + 1) cap) (w2 := w2) (by rw [pc_append, List.length_append]; exact ho) hg (by have := K.lp; simp; omega)
    exact ⟨this.1, (hb0.mono (Nat.le_of_lt K.lt)).trans ((((Below.refl _ _).alloc (by have := K.lt; simp; omega) _).drew).trans this.2)⟩
  have hlp := K.lp
  have hlt := K.lt
  clear hz K K1 K2
  go_enter Tryz.func23, Tryz.ntmps23
  go_wp2_with fail
  go_region_law (refine step_append_lies _ rfl (.tmp 52) (.tmp 58) 33 rfl Wb 32 i0 (.agg #[.string ⟨#[]⟩, .string ⟨#[]⟩]) 2 32 Tryz.underlying33 hi hz0 hz1 hz2 rfl (by decide) pv ps.length (pc ps) (by simp [Act.eval]) HO.out ⟨w.heap.size + 1, 0, none⟩ 1 1 [.string s, .string t] (by simp [Act.eval]) rfl HN.out H1.out (by decide) (by unfold maxLen; omega) (by omega) (by rw [HZ.out]; omega) (w.heap.size + 2) HZ.out ?_; intro g cap w2 hown2 hg2 hgg hlt2; obtain ⟨d9, e9⟩ := HK.out w2 hg2)
  all_goals
    go_wp2
    go_ret
    exact ⟨rfl, HFIN.out _ _ _ hown2 hg2⟩
end Go.Proofs.YtibofakbhgmhiaaGreatDoor
