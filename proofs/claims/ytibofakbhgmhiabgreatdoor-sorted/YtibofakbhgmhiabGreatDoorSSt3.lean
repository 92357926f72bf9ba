import Derived.Test.YtibofakbhgmhiabGreatDoorSMa
import Derived.Deep.RegionWith
namespace Go.Proofs.YtibofakbhgmhiabGreatDoor
open Go.RowKit

theorem Tryz.infoInts : (Tryz.prog.info? 66).map (fun i => (i.zero, i.size, i.bytes)) = some (some (.slice none 0 0), 1, 24) := by kernel_rfl

set_option maxHeartbeats 4000000 in
set_option maxRecDepth 100000 in
theorem step_run (Wb : Nat) (A B C : Int) (s t : ByteArray) (w : World) (rr : List (List Int)) (N : Nat) (K : KHas Wb w rr N) (hN : N ≤ 1048576) (hs : s.size ≤ 1099511627776) :
    Calls Tryz.prog 11 #[.pointer (some ⟨Wb, 0, none⟩), opV 7 A B C s t] w fun e w' => e = .returned (.bool true) ∧ ∃ l, Srt l ∧ l.length ≤ s.size ∧ KHas Wb w' (rr ++ [l]) (N + 1) ∧ Below Wb w w' := by
  obtain ⟨cs, ev, pv, rv, ne, np, xe, xp, xr, K⟩ := K
  obtain ⟨i0, hi, hz0, hz1, hz2⟩ := info_parts Tryz.infoInts
  have hb0 : Below w.heap.size w (w.alloc (.cells #[.int .i64 7, .int .i64 A, .int .i64 B, .int .i64 C, .string s, .string t] 45)) := (Below.refl _ _).alloc (Nat.le_refl _) _
  have K1 := K.grown hb0
  have c10 := (K1.cell 10).trans K1.e10
  have f10 := K1.frozen 10
  have hlp := K.lr
  have hlt := K.lt
  have HC : Hid (∀ w1, Below (w.alloc (.cells #[.int .i64 7, .int .i64 A, .int .i64 B, .int .i64 C, .string s, .string t] 45)).drew.heap.size (w.alloc (.cells #[.int .i64 7, .int .i64 A, .int .i64 B, .int .i64 C, .string s, .string t] 45)).drew w1 → w1.cell? ⟨Wb, 10, none⟩ = some rv ∧ w1.frozen? ⟨Wb, 10, none⟩ = false ∧ w.heap.size < w1.heap.size ∧
      (∀ o, (w1.alloc o).ownsRow Wb 66 1 rv rr.length xr ∧ (w1.alloc o).cell? ⟨Wb, 10, none⟩ = some rv ∧ (∀ w2, (w1.alloc o).grownBy w2 rv.ownBlock → (w2.cell? ⟨Wb, 10, none⟩ = some rv ∧ w2.frozen? ⟨Wb, 10, none⟩ = false) ∧ ∀ v u l, w1.ownsRow (w.heap.size + 1) 3 1 u l.length (ic l) → w2.ownsRow Wb 66 1 v (rr.length + 1) (xr ++ [u]) → KHas Wb (w2.setCell ⟨Wb, 10, none⟩ v) (rr ++ [l]) (N + 1) ∧ Below Wb w (w2.setCell ⟨Wb, 10, none⟩ v)))) := by
    intro w1 hb1
    have K2 := (K1.grown (Below.refl _ _).drew).grown hb1
    have hsz := hb1.size
    refine ⟨(K2.cell 10).trans K2.e10, K2.frozen 10, by simp [World.drew] at hsz; omega, fun o => ?_⟩
    have K3 := K2.grown ((Below.refl _ _).alloc (Nat.le_refl _) o)
    refine ⟨K3.or, (K3.cell 10).trans K3.e10, fun w2 hg => ?_⟩
    have hblk := K3.grownBlk K3.or (by decide) hg
    refine ⟨⟨by have := K3.e10; simpa [World.cell?, hblk] using this, by simp [World.frozen?, hblk]⟩, fun v u l hu ho => ?_⟩
    have := K3.put10 (hown_below (own_mono hu (by have := K.lt; omega)) ((Below.refl _ _).alloc (Nat.le_refl _) o)) ho hg
    exact ⟨this.1, ((hb0.mono (Nat.le_of_lt K.lt)).drew.trans (hb1.mono (by have := K1.lt; simp [World.drew] at this ⊢; omega))).trans (((Below.refl _ _).alloc (Nat.le_of_lt K2.lt) o).trans this.2)⟩
  have HSZ : Hid ((w.alloc (.cells #[.int .i64 7, .int .i64 A, .int .i64 B, .int .i64 C, .string s, .string t] 45)).drew.heap.size = w.heap.size + 1) := by show _ = _; simp [World.drew]
  clear K K1
  go_enter Tryz.func11, Tryz.ntmps11
  go_wp2_with fail
  go_region_law (first
    | (refine step_append_lies _ rfl (.tmp 74) (.tmp 78) 33 rfl Wb 66 i0 (.slice none 0 0) 1 24 Tryz.underlying33 hi hz0 hz1 hz2 rfl (by decide) rv rr.length xr (by simp [Act.eval]) (HA _).1 ⟨w1.heap.size, 0, none⟩ 1 1 [.slice a' l.length c'] (by simp [Act.eval]) rfl (one_new w1 (.slice a' l.length c') _) (by intro u hu; simp at hu; subst hu; rfl) (by decide) (by unfold maxLen; omega) (by omega) (by simp; omega) (w1.heap.size + 1) (by simp) ?_; intro g cap w2 hown2 hg2 hgg hlt2; obtain ⟨⟨d9, e9⟩, HE⟩ := (HA _).2.2 w2 hg2)
    | (go_simp; go_at_call 23; refine (rising s _ hs).mono ?_; rintro e w1 ⟨⟨va, l, rfl, hso, hll, hul⟩, hb1⟩; obtain ⟨a', c', rfl⟩ := hown_slice hul; rw [HSZ.out] at hul; obtain ⟨d1, d2, d3, HA⟩ := HC.out w1 hb1))
  all_goals
    go_wp2
    go_ret
    exact ⟨rfl, l, hso, hll, (HE _ _ l hul hown2).1, (HE _ _ l hul hown2).2⟩
end Go.Proofs.YtibofakbhgmhiabGreatDoor
