import Derived.Test.YtibofakbhgmhiaaGreatDoorPut
namespace Go.Proofs.YtibofakbhgmhiaaGreatDoor
open Go.RowKit Rd
theorem Tryz.infoEvent : (Tryz.prog.info? 75).map (fun i => (i.zero, i.size, i.bytes)) = some (some (.agg #[.int .i64 0, .int .i64 0, .int .i64 0]), 3, 24) := by kernel_rfl

set_option maxHeartbeats 2000000 in
set_option maxRecDepth 100000 in
theorem step_event (Wb : Nat) (A B C : Int) (s t : ByteArray) (w : World) (ps : PS) (N : Nat) (K : KHas Wb w ps N) (hN : N ≤ 1048576) :
    Calls Tryz.prog 23 #[.pointer (some ⟨Wb, 0, none⟩), opV 2 A B C s t] w fun e w' => e = .returned (.bool true) ∧ KHas Wb w' ps (N + 1) ∧ Below Wb w w' := by
  obtain ⟨cs, ev, pv, rv, ne, nr, xe, xr, K⟩ := K
  obtain ⟨i0, hi, hz0, hz1, hz2⟩ := info_parts Tryz.infoEvent
  have hb0 : Below w.heap.size w (w.alloc (.cells #[.int .i64 2, .int .i64 A, .int .i64 B, .int .i64 C, .string s, .string t] 53)) := (Below.refl _ _).alloc (Nat.le_refl _) _
  have K1 := K.grown hb0
  have K2 := K1.grown ((Below.refl _ _).alloc (Nat.le_refl _) (.cells #[.int .i64 A, .int .i64 B, .int .i64 C] 75))
  have c9 := (K1.cell 8).trans K1.e8
  have f9 := K1.frozen 8
  have c9' := (K2.cell 8).trans K2.e8
  have f9' := K2.frozen 8
  have HO : Hid ((((w.alloc (.cells #[.int .i64 2, .int .i64 A, .int .i64 B, .int .i64 C, .string s, .string t] 53)).alloc (.cells #[.int .i64 A, .int .i64 B, .int .i64 C] 75)).drew).ownsRow Wb 75 3 ev ne xe) := K2.oe
  have HN : Hid (∀ (j : Nat) (u : Value), [Value.int .i64 A, .int .i64 B, .int .i64 C][j]? = some u → (((w.alloc (.cells #[.int .i64 2, .int .i64 A, .int .i64 B, .int .i64 C, .string s, .string t] 53)).alloc (.cells #[.int .i64 A, .int .i64 B, .int .i64 C] 75)).drew).cell? ((⟨w.heap.size + 1, 0, none⟩ : Addr).add j) = some u) := by
    intro j u hj
    have e : (⟨w.heap.size + 1, 0, none⟩ : Addr).add j = ⟨w.heap.size + 1, j, none⟩ := by unfold Addr.add; split <;> simp_all
    rw [e]
    show ((w.alloc _).alloc _).cell? _ = _
    rw [World.cell?_alloc_at _ _ _ _ (by simp)]
    rcases j with _ | _ | _ | j
    · simpa using hj
    · simpa using hj
    · simpa using hj
    · simp at hj
  have H1 : Hid (∀ u ∈ [Value.int .i64 A, .int .i64 B, .int .i64 C], u.oneCell' = true) := by
    intro u hu; simp at hu; rcases hu with rfl | rfl | rfl <;> rfl
  have HK : Hid (∀ w2, (((w.alloc (.cells #[.int .i64 2, .int .i64 A, .int .i64 B, .int .i64 C, .string s, .string t] 53)).alloc (.cells #[.int .i64 A, .int .i64 B, .int .i64 C] 75)).drew).grownBy w2 ev.ownBlock → w2.cell? ⟨Wb, 8, none⟩ = some ev ∧ w2.frozen? ⟨Wb, 8, none⟩ = false) := by
    intro w2 hg
    have e : w2.heap[Wb]? = some (.cells cs 51 (0, 0)) := by
      rw [hg.block Wb (K2.lt) (fun e => row_ne' K2.oe K2.blk (by decide) e.symm)]; exact K2.blk
    have c := K2.e8
    exact ⟨by simpa [World.cell?, e] using c, by simp [World.frozen?, e]⟩
  have hz : (((w.alloc (.cells #[.int .i64 2, .int .i64 A, .int .i64 B, .int .i64 C, .string s, .string t] 53)).alloc (.cells #[.int .i64 A, .int .i64 B, .int .i64 C] 75)).drew).heap.size = w.heap.size + 2 := by simp [World.drew]
  have HZ : Hid ((((w.alloc (.cells #[.int .i64 2, .int .i64 A, .int .i64 B, .int .i64 C, .string s, .string t] 53)).alloc (.cells #[.int .i64 A, .int .i64 B, .int .i64 C] 75)).drew).heap.size = w.heap.size + 2) := hz
  have HFIN : Hid (∀ g cap w2, World.ownsRow w2 Wb 75 3 (.slice (some ⟨g, 0, none⟩) (ne + 1) cap) (ne + 1) (xe ++ [.int .i64 A, .int .i64 B, .int .i64 C]) → (((w.alloc (.cells #[.int .i64 2, .int .i64 A, .int .i64 B, .int .i64 C, .string s, .string t] 53)).alloc (.cells #[.int .i64 A, .int .i64 B, .int .i64 C] 75)).drew).grownBy w2 ev.ownBlock → KHas Wb (w2.setCell ⟨Wb, 8, none⟩ (.slice (some ⟨g, 0, none⟩) (ne + 1) cap)) ps (N + 1) ∧ Below Wb w (w2.setCell ⟨Wb, 8, none⟩ (.slice (some ⟨g, 0, none⟩) (ne + 1) cap))) := by
    intro g cap w2 ho hg
    have K3 := K2.grown (Below.refl _ _).drew
    have := K3.put8 (v := .slice (some ⟨g, 0, none⟩) (ne + 1) cap) (w2 := w2) ho hg (by have := K.le; omega)
    exact ⟨this.1, (hb0.mono (Nat.le_of_lt K.lt)).trans ((((Below.refl _ _).alloc (by have := K.lt; simp; omega) _).drew).trans this.2)⟩
  have hlp := K.le
  have hlt := K.lt
  clear hz K K1 K2
  go_enter Tryz.func23, Tryz.ntmps23
  go_wp2_with fail
  go_region_law (refine step_append_lies _ rfl (.tmp 24) (.tmp 32) 42 rfl Wb 75 i0 (.agg #[.int .i64 0, .int .i64 0, .int .i64 0]) 3 24 Tryz.underlying42 hi hz0 hz1 hz2 rfl (by decide) ev ne xe (by simp [Act.eval]) HO.out ⟨w.heap.size + 1, 0, none⟩ 1 1 [.int .i64 A, .int .i64 B, .int .i64 C] (by simp [Act.eval]) rfl HN.out H1.out (by decide) (by unfold maxLen; omega) (by omega) (by rw [HZ.out]; omega) (w.heap.size + 2) HZ.out ?_; intro g cap w2 hown2 hg2 hgg hlt2; obtain ⟨d9, e9⟩ := HK.out w2 hg2)
  all_goals
    go_wp2
    go_ret
    exact ⟨rfl, HFIN.out _ _ _ hown2 hg2⟩
end Go.Proofs.YtibofakbhgmhiaaGreatDoor
