import Derived.Test.YtibofakbhgmhiabGreatDoorSml
import Derived.Test.YtibofakbhgmhiabGreatDoorSSt2
import Derived.Test.YtibofakbhgmhiabGreatDoorSSt3
import Derived.Test.YtibofakbhgmhiabGreatDoorSSt4
namespace Go.Proofs.YtibofakbhgmhiabGreatDoor
open Go.RowKit

/-- the runs that a script's first steps have gathered -/
structure Gath (ops : List OpD) (k : Nat) (rr : List (List Int)) : Prop where
  srt : ∀ r ∈ rr, Srt r
  len : lens rr ≤ tot (ops.take k)

theorem Gath.start (ops : List OpD) : Gath ops 0 [] := ⟨fun r hr => (by cases hr), Nat.zero_le _⟩
theorem Gath.skip {ops : List OpD} {k : Nat} {rr : List (List Int)} (h : Gath ops k rr) (hk : k < ops.length) : Gath ops (k + 1) rr :=
  ⟨h.srt, by have := h.len; have := tot_take_succ ops k hk; omega⟩
theorem Gath.run {ops : List OpD} {k : Nat} {rr : List (List Int)} (h : Gath ops k rr) (hk : k < ops.length) {l : List Int} (hs : Srt l) (hl : l.length ≤ ops[k].s.size) : Gath ops (k + 1) (rr ++ [l]) := by
  refine ⟨fun r hr => ?_, ?_⟩
  · rcases List.mem_append.1 hr with hr | hr
    · exact h.srt r hr
    · rw [List.mem_singleton] at hr; subst hr; exact hs
  · have h1 := h.len
    have h2 := tot_take_succ ops k hk
    rw [lens_append]
    simp [lens] at h1 ⊢
    omega

theorem KHas.up {Wb : Nat} {w : World} {rr : List (List Int)} {N : Nat} (h : KHas Wb w rr N) : KHas Wb w rr (N + 1) := by
  obtain ⟨cs, ev, pv, rv, ne, np, xe, xp, xr, K⟩ := h
  exact ⟨cs, ev, pv, rv, ne, np, xe, xp, xr, K.blk, K.size, K.e8, K.e9, K.e10, K.oe, K.op, K.or, K.rows, by have := K.le; omega, by have := K.lp; omega, by have := K.lr; omega⟩
theorem KHas.grown {Wb : Nat} {w w' : World} {rr : List (List Int)} {N : Nat} (h : KHas Wb w rr N) (hb : Below w.heap.size w w') : KHas Wb w' rr N := by
  obtain ⟨cs, ev, pv, rv, ne, np, xe, xp, xr, K⟩ := h
  exact ⟨cs, ev, pv, rv, ne, np, xe, xp, xr, K.grown hb⟩
theorem kzero : Tryz.zeroCells43.size = 71 ∧ Tryz.zeroCells43[8]? = some (.slice none 0 0) ∧ Tryz.zeroCells43[9]? = some (.slice none 0 0) ∧ Tryz.zeroCells43[10]? = some (.slice none 0 0) := ⟨by kernel_rfl, by kernel_rfl, by kernel_rfl, by kernel_rfl⟩
theorem kstart (w : World) (q : Nat) : KHas w.heap.size ((w.drewN q).alloc (.cells Tryz.zeroCells43 43)) [] 0 :=
  ⟨_, _, _, _, 0, 0, [], [], [], alloc_at (w.drewN q) _, kzero.1, kzero.2.1, kzero.2.2.1, kzero.2.2.2, World.ownsRow_nil _ _ _ _, World.ownsRow_nil _ _ _ _, World.ownsRow_nil _ _ _ _, fun _ hi => absurd hi (Nat.not_lt_zero _), Nat.le_refl _, Nat.le_refl _, Nat.le_refl _⟩

set_option maxHeartbeats 4000000 in
set_option maxRecDepth 100000 in
theorem plays (ops : List OpD) (v : Value) (w : World) (ho : OpsAt w v ops) (hn : ops.length ≤ 140737488351232)
    (hS : ∀ o ∈ ops, (o.s.size ≤ 140737488351232 ∧ o.t.size ≤ 140737488351232) ∧ -9223372036854775808 ≤ o.A ∧ o.A ≤ 9223372036854775807) :
    Calls Tryz.prog 6 #[v, .int .i64 8] w fun e w' => e = .returned (.bool true) ∧ Below w.heap.size w w' := by
  have hsm := small ops v w ho hn (fun o hm => (hS o hm).1)
  have HSM : Hid (Calls Tryz.prog 10 #[v] w fun e w' => e = .returned (.bool (decide (tot ops ≤ 1048576))) ∧ ∃ q, w' = w.drewN q) := hsm
  clear hsm
  by_cases htot : tot ops ≤ 1048576
  · have hd : decide (tot ops ≤ 1048576) = true := by simp; omega
    rw [hd] at HSM
    clear hd
    go_enter Tryz.func6, Tryz.ntmps6
    go_wp2_with fail
    refine HSM.out.mono ?_
    rintro e w1 ⟨rfl, q, hw1⟩
    subst hw1
    obtain ⟨ao, co, rfl, hc⟩ := ho
    go_wp2_with fail
    go_loopw [7] (fun i wr => ∃ (k : Nat) (rr : List (List Int)), k ≤ ops.length ∧ i = .int .i64 k ∧ Gath ops k rr ∧ KHas w.heap.size wr rr k ∧ Below w.heap.size w wr) (fun i _ => ops.length - (intOf i).toNat)
    case atStart => exact ⟨0, [], Nat.zero_le _, rfl, Gath.start ops, kstart w q, (below_drewN (Below.refl _ _) q).alloc (Nat.le_refl _) _⟩
    case round =>
      obtain ⟨k, rr, hk, rfl, G, hK, hb⟩ := hrel
      have hsz := hb.size
      by_cases hlt : k < ops.length
      · obtain ⟨b, off, rfl, c0, c1, c2, c3, c4, c5⟩ := hc k hlt
        have hbl : b < w.heap.size := World.block_lt_of_cell? w ⟨b, off + k * 6, none⟩ c0
        have d0 := (hb.cell (p := ⟨b, off + k * 6, none⟩) hbl).trans c0
        have d1 := (hb.cell (p := ⟨b, off + k * 6 + 1, none⟩) hbl).trans c1
        have d2 := (hb.cell (p := ⟨b, off + k * 6 + 2, none⟩) hbl).trans c2
        have d3 := (hb.cell (p := ⟨b, off + k * 6 + 3, none⟩) hbl).trans c3
        have d4 := (hb.cell (p := ⟨b, off + k * 6 + 4, none⟩) hbl).trans c4
        have d5 := (hb.cell (p := ⟨b, off + k * 6 + 5, none⟩) hbl).trans c5
        have hz := hS ops[k] (List.getElem_mem _)
        have hge := tot_ge ops
        have htk := tot_take_succ ops k hlt
        have htl := tot_take_le ops (k + 1)
        have hss : ops[k].s.size ≤ 1048576 := by omega
        have G1 := G.skip hlt
        have HR : Hid (∀ l, Srt l → l.length ≤ ops[k].s.size → Gath ops (k + 1) (rr ++ [l])) := fun l h1 h2 => G.run hlt h1 h2
        have hle := tot_take_le ops k
        have HLE : Hid (lens rr ≤ 1048576) := by have := G.len; show _ ≤ _; omega
        have HSR : Hid (∀ r ∈ rr, Srt r) := G.srt
        have hkN : k ≤ 1048576 := by omega
        have hA1 := hz.2.1
        have hA2 := hz.2.2
        generalize ops[k] = o at *
        obtain ⟨kk, A, B, C, s, t⟩ := o
        simp only at d0 d1 d2 d3 d4 d5 hss HR hA1 hA2
        have H1 : Hid (Gath ops (k + 1) rr) := G1
        clear hc c0 c1 c2 c3 c4 c5 hz htk htl hge hle G1 hS G
        by_cases e1 : kk = 1
        · subst e1
          go_wp2_with fail
          refine (step_num w.heap.size A B C s t _ rr k hK hA1 hA2).mono ?_
          rintro e w2 ⟨rfl, hK2, hb2⟩
          go_wp2
          go_roundw
          case rel => exact ⟨k + 1, rr, by omega, by go_num, H1.out, hK2.up, hb.trans hb2⟩
          case measure => simp [intOf]; omega
        by_cases e2 : kk = 2
        · subst e2
          go_wp2_with fail
          refine (step_event w.heap.size A B C s t _ rr k hK hkN).mono ?_
          rintro e w2 ⟨rfl, hK2, hb2⟩
          go_wp2
          go_roundw
          case rel => exact ⟨k + 1, rr, by omega, by go_num, H1.out, hK2, hb.trans hb2⟩
          case measure => simp [intOf]; omega
        by_cases e5 : kk = 5
        · subst e5
          go_wp2_with fail
          refine (step_pair w.heap.size A B C s t _ rr k hK hkN).mono ?_
          rintro e w2 ⟨rfl, hK2, hb2⟩
          go_wp2
          go_roundw
          case rel => exact ⟨k + 1, rr, by omega, by go_num, H1.out, hK2, hb.trans hb2⟩
          case measure => simp [intOf]; omega
        by_cases e8 : kk = 8
        · subst e8
          go_wp2_with fail
          refine (step_merge w.heap.size A B C s t _ rr k hK HSR.out HLE.out hkN).mono ?_
          rintro e w2 ⟨rfl, hb2⟩
          go_wp2
          go_roundw
          case rel => exact ⟨k + 1, rr, by omega, by go_num, H1.out, (hK.grown hb2).up, hb.trans (hb2.mono hsz)⟩
          case measure => simp [intOf]; omega
        by_cases e7 : kk = 7
        · subst e7
          go_wp2_with fail
          refine (step_run w.heap.size A B C s t _ rr k hK hkN (by omega)).mono ?_
          rintro e w2 ⟨rfl, l, hs1, hs2, hK2, hb2⟩
          go_wp2
          go_roundw
          case rel => exact ⟨k + 1, _, by omega, by go_num, HR.out l hs1 hs2, hK2, hb.trans hb2⟩
          case measure => simp [intOf]; omega
        by_cases e3 : kk = 3
        · subst e3
          go_wp2
          go_roundw
          case rel => exact ⟨k + 1, rr, by omega, by go_num, H1.out, hK.up, hb⟩
          case measure => simp [intOf]; omega
        by_cases e4 : kk = 4
        · subst e4
          go_wp2
          go_roundw
          case rel => exact ⟨k + 1, rr, by omega, by go_num, H1.out, hK.up, hb⟩
          case measure => simp [intOf]; omega
        by_cases e6 : kk = 6
        · subst e6
          go_wp2
          go_roundw
          case rel => exact ⟨k + 1, rr, by omega, by go_num, H1.out, hK.up, hb⟩
          case measure => simp [intOf]; omega
        by_cases e9 : kk = 9
        · subst e9
          go_wp2
          go_roundw
          case rel => exact ⟨k + 1, rr, by omega, by go_num, H1.out, hK.up, hb⟩
          case measure => simp [intOf]; omega
        have b1 : (kk == 1) = false := by simpa using e1
        have b2 : (kk == 2) = false := by simpa using e2
        have b3 : (kk == 3) = false := by simpa using e3
        have b4 : (kk == 4) = false := by simpa using e4
        have b5 : (kk == 5) = false := by simpa using e5
        have b6 : (kk == 6) = false := by simpa using e6
        have b7 : (kk == 7) = false := by simpa using e7
        have b8 : (kk == 8) = false := by simpa using e8
        have b9 : (kk == 9) = false := by simpa using e9
        have n8 : (kk != 8) = true := by simpa using e8
        clear e1 e2 e3 e4 e5 e6 e7 e8 e9
        go_wp2_with fail
        refine (step_other w.heap.size kk A B C s t _ b1 b2 b3 b4 b5 b6 b7 b8 b9).mono ?_
        rintro e w2 ⟨rfl, hb2⟩
        go_wp2
        go_roundw
        case rel => exact ⟨k + 1, rr, by omega, by go_num, H1.out, (hK.grown hb2).up, hb.trans (hb2.mono hsz)⟩
        case measure => simp [intOf]; omega
      · clear hc hS
        go_wp2
        go_ret
        exact ⟨rfl, hb⟩
  · have hd : decide (tot ops ≤ 1048576) = false := by simp; omega
    rw [hd] at HSM
    clear hd ho
    go_enter Tryz.func6, Tryz.ntmps6
    go_wp2_with fail
    refine HSM.out.mono ?_
    rintro e w1 ⟨rfl, q, hw1⟩
    subst hw1
    go_wp2
    go_ret
    exact ⟨rfl, below_drewN (Below.refl _ _) _⟩
end Go.Proofs.YtibofakbhgmhiabGreatDoor
