import Derived.Test.YtibofakbhgmhiaaGreatDoorSml
import Derived.Test.YtibofakbhgmhiaaGreatDoorStp2
import Derived.Test.YtibofakbhgmhiaaGreatDoorStp3
import Derived.Test.YtibofakbhgmhiaaGreatDoorStp4
import Derived.Test.YtibofakbhgmhiaaGreatDoorStp5
namespace Go.Proofs.YtibofakbhgmhiaaGreatDoor
open Go.RowKit Rd

/-- the pairs that a script's first steps have gathered -/
structure Gath (ops : List OpD) (k : Nat) (ps : PS) : Prop where
  len : ps.length ≤ k
  enc : (enc crcN (bys ps)).length ≤ 12 * tot (ops.take k)
  short : Short (bys ps)

theorem Gath.start (ops : List OpD) : Gath ops 0 [] := ⟨Nat.le_refl _, Nat.zero_le _, by intro p hp; simp [bys] at hp⟩
theorem Gath.skip {ops : List OpD} {k : Nat} {ps : PS} (h : Gath ops k ps) (hk : k < ops.length) : Gath ops (k + 1) ps :=
  ⟨by have := h.len; omega, by have := h.enc; have := tot_take_succ ops k hk; omega, h.short⟩
theorem Gath.pair {ops : List OpD} {k : Nat} {ps : PS} (h : Gath ops k ps) (hk : k < ops.length) (hs : ops[k].s.size < 4294967296) (ht : ops[k].t.size < 4294967296) : Gath ops (k + 1) (ps ++ [(ops[k].s, ops[k].t)]) := by
  refine ⟨by have := h.len; simp; omega, ?_, ?_⟩
  · have h1 := h.enc
    have h2 := tot_take_succ ops k hk
    have e : bys (ps ++ [(ops[k].s, ops[k].t)]) = bys ps ++ [(ops[k].s.data.toList, ops[k].t.data.toList)] := by simp [bys]
    rw [e, enc_append, List.length_append]
    have e2 : (Rd.enc crcN [(ops[k].s.data.toList, ops[k].t.data.toList)]).length = 12 + ops[k].s.size + ops[k].t.size := by
      simp [Rd.enc, recd_length]
    rw [e2]; omega
  · intro p hp
    simp [bys] at hp
    rcases hp with ⟨p1, p2, hm, rfl⟩ | rfl
    · exact h.short _ (by simp [bys]; exact ⟨p1, p2, hm, rfl, rfl⟩)
    · constructor
      · show ops[k].s.data.toList.length < _
        rw [Array.length_toList]; exact hs
      · show ops[k].t.data.toList.length < _
        rw [Array.length_toList]; exact ht

theorem KHas.up {Wb : Nat} {w : World} {ps : PS} {N : Nat} (h : KHas Wb w ps N) : KHas Wb w ps (N + 1) := by
  obtain ⟨cs, ev, pv, rv, ne, nr, xe, xr, K⟩ := h
  exact ⟨cs, ev, pv, rv, ne, nr, xe, xr, K.blk, K.size, K.e8, K.e9, K.e10, K.oe, K.op, K.or, by have := K.le; omega, by have := K.lp; omega, by have := K.lr; omega⟩
theorem KHas.grown {Wb : Nat} {w w' : World} {ps : PS} {N : Nat} (h : KHas Wb w ps N) (hb : Below w.heap.size w w') : KHas Wb w' ps N := by
  obtain ⟨cs, ev, pv, rv, ne, nr, xe, xr, K⟩ := h
  exact ⟨cs, ev, pv, rv, ne, nr, xe, xr, K.grown hb⟩
theorem kzero : Tryz.zeroCells51.size = 71 ∧ Tryz.zeroCells51[8]? = some (.slice none 0 0) ∧ Tryz.zeroCells51[9]? = some (.slice none 0 0) ∧ Tryz.zeroCells51[10]? = some (.slice none 0 0) := ⟨by kernel_rfl, by kernel_rfl, by kernel_rfl, by kernel_rfl⟩
theorem kstart (w : World) (q : Nat) : KHas w.heap.size ((w.drewN q).alloc (.cells Tryz.zeroCells51 51)) [] 0 :=
  ⟨_, _, _, _, 0, 0, [], [], alloc_new (w.drewN q) _, kzero.1, kzero.2.1, kzero.2.2.1, kzero.2.2.2, World.ownsRow_nil _ _ _ _, World.ownsRow_nil _ _ _ _, World.ownsRow_nil _ _ _ _, Nat.le_refl _, Nat.le_refl _, Nat.le_refl _⟩

set_option maxHeartbeats 4000000 in
set_option maxRecDepth 100000 in
theorem plays (a : Nat → Addr) (ops : List OpD) (v : Value) (w : World) (S : Sents w a) (hT : Tab w) (hG : 12 < w.heap.size) (ho : OpsAt w v ops) (hn : ops.length ≤ 140737488351232)
    (hS : ∀ o ∈ ops, (o.s.size ≤ 140737488351232 ∧ o.t.size ≤ 140737488351232) ∧ -9223372036854775808 ≤ o.A ∧ o.A ≤ 9223372036854775807) :
    Calls Tryz.prog 17 #[v, .int .i64 6] w fun e w' => e = .returned (.bool true) ∧ Below w.heap.size w w' := by
  have hsm := small ops v w ho hn (fun o hm => (hS o hm).1)
  have HSM : Hid (Calls Tryz.prog 22 #[v] w fun e w' => e = .returned (.bool (decide (tot ops ≤ 1048576))) ∧ ∃ q, w' = w.drewN q) := hsm
  clear hsm
  by_cases htot : tot ops ≤ 1048576
  · have hd : decide (tot ops ≤ 1048576) = true := by simp; omega
    rw [hd] at HSM
    clear hd
    go_enter Tryz.func17, Tryz.ntmps17
    go_wp2_with fail
    refine HSM.out.mono ?_
    rintro e w1 ⟨rfl, q, hw1⟩
    subst hw1
    obtain ⟨ao, co, rfl, hc⟩ := ho
    go_wp2_with fail
    go_loopw [7] (fun i wr => ∃ (k : Nat) (ps : PS), k ≤ ops.length ∧ i = .int .i64 k ∧ Gath ops k ps ∧ KHas w.heap.size wr ps k ∧ Below w.heap.size w wr) (fun i _ => ops.length - (intOf i).toNat)
    case atStart => exact ⟨0, [], Nat.zero_le _, rfl, Gath.start ops, kstart w q, (below_drewN (Below.refl _ _) q).alloc (Nat.le_refl _) _⟩
    case round =>
      obtain ⟨k, ps, hk, rfl, G, hK, hb⟩ := hrel
      have hsz := hb.size
      by_cases hlt : k < ops.length
      · obtain ⟨b, off, rfl, c0, c1, c2, c3, c4, c5⟩ := hc k hlt
        have hbl : b < w.heap.size := World.block_lt_of_cell? w ⟨b, off + k * 6, none⟩ c0
        have d0 := (hb.cell (p := ⟨b, off + k * 6, none⟩) hbl).trans c0
        have d1 := (hb.cell (p := ⟨b, off + k * 6 + 1, none⟩) hbl).trans c1
        have d2 := (hb.cell (p := ⟨b, off + k * 6 + 2, none⟩) hbl).trans c2
        have d3 := (hb.cell (p := ⟨b, off + k * 6 + 3, none⟩) hbl).trans c3
        have d4 := (hb.cell (p := ⟨b, off + k * 6 + 4, none⟩) hbl).trans c4
        have d5 := (hb.cell (p := ⟨b, off + k * 6 + 5, none⟩) hbl).trans c5
        have hz := hS ops[k] (List.getElem_mem _)
        have hge := tot_ge ops
        have htk := tot_take_succ ops k hlt
        have htl := tot_take_le ops (k + 1)
        have hss : ops[k].s.size ≤ 1048576 := by omega
        have htt : ops[k].t.size ≤ 1048576 := by omega
        have G1 := G.skip hlt
        have GP := G.pair hlt (by omega) (by omega)
        have hGe := G.enc
        have hle := tot_take_le ops k
        have HE : Hid ((enc crcN (bys ps)).length ≤ 1099511627776) := by show _ ≤ _; omega
        have HSH := G.short
        have S1 := S.below hb
        have hT1 := hT.below hb hG
        have hkN : k ≤ 1048576 := by omega
        have hA1 := hz.2.1
        have hA2 := hz.2.2
        generalize ops[k] = o at *
        obtain ⟨kk, A, B, C, s, t⟩ := o
        simp only at d0 d1 d2 d3 d4 d5 hss htt GP hA1 hA2
        have HP : Hid (Gath ops (k + 1) (ps ++ [(s, t)])) := GP
        have H1 : Hid (Gath ops (k + 1) ps) := G1
        clear hc c0 c1 c2 c3 c4 c5 hz htk htl hge hGe hle GP G1 hS G
        by_cases e1 : kk = 1
        · subst e1
          go_wp2_with fail
          refine (step_num w.heap.size A B C s t _ ps k hK hA1 hA2).mono ?_
          rintro e w2 ⟨rfl, hK2, hb2⟩
          clear hT1 S1
          go_wp2
          go_roundw
          case rel => exact ⟨k + 1, ps, by omega, by go_num, H1.out, hK2.up, hb.trans hb2⟩
          case measure => simp [intOf]; omega
        by_cases e2 : kk = 2
        · subst e2
          go_wp2_with fail
          refine (step_event w.heap.size A B C s t _ ps k hK hkN).mono ?_
          rintro e w2 ⟨rfl, hK2, hb2⟩
          clear hT1 S1
          go_wp2
          go_roundw
          case rel => exact ⟨k + 1, ps, by omega, by go_num, H1.out, hK2, hb.trans hb2⟩
          case measure => simp [intOf]; omega
        by_cases e5 : kk = 5
        · subst e5
          go_wp2_with fail
          refine (step_pair w.heap.size A B C s t _ ps k hK hkN).mono ?_
          rintro e w2 ⟨rfl, hK2, hb2⟩
          clear hT1 S1
          go_wp2
          go_roundw
          case rel => exact ⟨k + 1, _, by omega, by go_num, HP.out, hK2, hb.trans hb2⟩
          case measure => simp [intOf]; omega
        by_cases e6 : kk = 6
        · subst e6
          go_wp2_with fail
          refine (step_round a w.heap.size A B C s t _ ps k hK S1 hT1 (by omega) HE.out HSH (by omega)).mono ?_
          rintro e w2 ⟨rfl, hb2⟩
          clear hT1 S1
          go_wp2
          go_roundw
          case rel => exact ⟨k + 1, ps, by omega, by go_num, H1.out, (hK.grown hb2).up, hb.trans (hb2.mono hsz)⟩
          case measure => simp [intOf]; omega
        by_cases e7 : kk = 7
        · subst e7
          go_wp2_with fail
          refine (step_run w.heap.size A B C s t _ ps k hK hkN (by omega)).mono ?_
          rintro e w2 ⟨rfl, hK2, hb2⟩
          clear hT1 S1
          go_wp2
          go_roundw
          case rel => exact ⟨k + 1, ps, by omega, by go_num, H1.out, hK2, hb.trans hb2⟩
          case measure => simp [intOf]; omega
        by_cases e3 : kk = 3
        · subst e3
          clear hT1 S1
          go_wp2
          go_roundw
          case rel => exact ⟨k + 1, ps, by omega, by go_num, H1.out, hK.up, hb⟩
          case measure => simp [intOf]; omega
        by_cases e4 : kk = 4
        · subst e4
          clear hT1 S1
          go_wp2
          go_roundw
          case rel => exact ⟨k + 1, ps, by omega, by go_num, H1.out, hK.up, hb⟩
          case measure => simp [intOf]; omega
        by_cases e8 : kk = 8
        · subst e8
          clear hT1 S1
          go_wp2
          go_roundw
          case rel => exact ⟨k + 1, ps, by omega, by go_num, H1.out, hK.up, hb⟩
          case measure => simp [intOf]; omega
        by_cases e9 : kk = 9
        · subst e9
          clear hT1 S1
          go_wp2
          go_roundw
          case rel => exact ⟨k + 1, ps, by omega, by go_num, H1.out, hK.up, hb⟩
          case measure => simp [intOf]; omega
        have b1 : (kk == 1) = false := by simpa using e1
        have b2 : (kk == 2) = false := by simpa using e2
        have b3 : (kk == 3) = false := by simpa using e3
        have b4 : (kk == 4) = false := by simpa using e4
        have b5 : (kk == 5) = false := by simpa using e5
        have b6 : (kk == 6) = false := by simpa using e6
        have b7 : (kk == 7) = false := by simpa using e7
        have b8 : (kk == 8) = false := by simpa using e8
        have b9 : (kk == 9) = false := by simpa using e9
        have n6 : (kk != 6) = true := by simpa using e6
        clear e1 e2 e3 e4 e5 e6 e7 e8 e9 hT1 S1
        go_wp2_with fail
        refine (step_other w.heap.size kk A B C s t _ b1 b2 b3 b4 b5 b6 b7 b8 b9).mono ?_
        rintro e w2 ⟨rfl, hb2⟩
        go_wp2
        go_roundw
        case rel => exact ⟨k + 1, ps, by omega, by go_num, H1.out, (hK.grown hb2).up, hb.trans (hb2.mono hsz)⟩
        case measure => simp [intOf]; omega
      · clear hc hS hT S
        go_wp2
        go_ret
        exact ⟨rfl, hb⟩
  · have hd : decide (tot ops ≤ 1048576) = false := by simp; omega
    rw [hd] at HSM
    clear hd ho
    go_enter Tryz.func17, Tryz.ntmps17
    go_wp2_with fail
    refine HSM.out.mono ?_
    rintro e w1 ⟨rfl, q, hw1⟩
    subst hw1
    go_wp2
    go_ret
    exact ⟨rfl, below_drewN (Below.refl _ _) _⟩
end Go.Proofs.YtibofakbhgmhiaaGreatDoor
