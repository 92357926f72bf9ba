import Derived.Test.YtibofakbhgmhiabGreatDoorSMa
namespace Go.Proofs.YtibofakbhgmhiabGreatDoor
open Go.RowKit

set_option maxHeartbeats 4000000 in
set_option maxRecDepth 100000 in
theorem merge (Wb : Nat) (rr : List (List Int)) (rv : Value) (n : Int) (w : World) (hW : w.cell? ⟨Wb, 10, none⟩ = some rv) (hI : IRunsAt w rv rr) (hS : ∀ r ∈ rr, Srt r) (hl : lens rr ≤ 1048576) (hn : rr.length ≤ 1048576) :
    Calls Tryz.prog 24 #[.pointer (some ⟨Wb, 0, none⟩), .int .i64 n] w fun e w' => e = .returned (.bool true) ∧ Below w.heap.size w w' := by
  obtain ⟨i0, hi, hz0, hz1, hz2⟩ := info_parts Tryz.infoItem
  obtain ⟨i1, hi1, hy0, hy1, hy2⟩ := info_parts Tryz.infoItems
  have hWl := hp_lt hW
  have hI0 := hI
  obtain ⟨a, c, rfl, hcell⟩ := hI
  go_enter Tryz.func24, Tryz.ntmps24
  go_wp2_with fail
  go_loopw [5, 6, 7] (fun v av iv wr => ∃ (k : Nat) (vs : List Value), k ≤ rr.length ∧ iv = .int .i64 k ∧ av = .int .i64 (lens (rr.take k) : Nat) ∧ wr.ownsRow w.heap.size 104 1 v k vs ∧ Copied wr w.heap.size vs (rsOf rr) k ∧ Below w.heap.size w wr) (fun _ _ iv _ => rr.length - (intOf iv).toNat)
  case atStart => exact ⟨0, [], Nat.zero_le _, rfl, by simp [lens], World.ownsRow_nil _ _ _ _, fun i _ h => absurd h (Nat.not_lt_zero _), Below.refl _ _⟩
  case round =>
    obtain ⟨k, vs, hk, rfl, rfl, hown, hcp, hb⟩ := hrel
    have hsz := hb.size
    have cW := (hb.cell (p := ⟨Wb, 10, none⟩) hWl).trans hW
    by_cases hlt : k < rr.length
    · obtain ⟨b, rfl, ai, ci, h1, h2⟩ := hcell k hlt
      have c1 := (hb.cell (p := ⟨b, k, none⟩) (hp_lt h1)).trans h1
      have HLS : Hid (lens (rr.take (k + 1)) = lens (rr.take k) + rr[k].length) := lens_take_succ rr k hlt
      have hle := lens_take_le rr (k + 1)
      rw [HLS.out] at hle
      obtain ⟨ao, co, rfl⟩ := hown_slice hown
      rename World => w1
      go_wp2_with fail
      go_loopw [8, 9] (fun u jv wi => ∃ j : Nat, j ≤ rr[k].length ∧ jv = .int .i64 j ∧ wi.ownsRow w1.heap.size 106 2 u j (rc ((rnOf k rr[k]).take j)) ∧ Below w1.heap.size w1 wi) (fun _ jv _ => rr[k].length - (intOf jv).toNat)
      case atStart => exact ⟨0, Nat.zero_le _, rfl, World.ownsRow_nil _ _ _ _, Below.refl _ _⟩
      case round =>
        obtain ⟨j, hj, rfl, howni, hbi⟩ := hrel
        have hszi := hbi.size
        have cW2 := (hbi.cell (p := ⟨Wb, 10, none⟩) (by show Wb < _; omega)).trans cW
        have c2 := (hbi.cell (p := ⟨b, k, none⟩) (hp_lt c1)).trans c1
        have hkl : (k : Int) < (rr.length : Int) := by omega
        by_cases hjl : j < rr[k].length
        · obtain ⟨bi, rfl, h3⟩ := h2 j hjl
          have c3 := (hbi.cell (p := ⟨bi, j, none⟩) (Nat.lt_of_lt_of_le (hp_lt h3) hsz)).trans ((hb.cell (p := ⟨bi, j, none⟩) (hp_lt h3)).trans h3)
          have HTS : Hid ((rnOf k rr[k]).take (j + 1) = (rnOf k rr[k]).take j ++ [(rr[k][j], 1048576 * (k : Int) + (j : Int))]) := rnOf_take_succ k rr[k] j hjl
          have hjl' : (j : Int) < (rr[k].length : Int) := by omega
          obtain ⟨au, cu, rfl⟩ := hown_slice howni
          clear h1 h2 c1 cW hcell hI0 hcp hown
          generalize rr[k][j] = x at *
          generalize rnOf k rr[k] = R at *
          generalize rr[k].length = rl at *
          go_wp2_with (at_builtin; refine wpList_append_own _ rfl (.tmp 38) (.tmp 54) 104 rfl w1.heap.size 106 i0 (.agg #[.int .i64 0, .int .i64 0]) 2 16 Tryz.underlying104 hi hz0 hz1 hz2 rfl (by decide) _ _ _ rfl (howni.alloc _) ⟨wr.heap.size, 0, none⟩ 1 1 [.int .i64 x, .int .i64 (1048576 * (k : Int) + (j : Int))] rfl rfl ?c1 ?c2 ?c3 ?c4 ?c5 ?_)
          case c1 => exact two_new wr _ _ _
          case c2 => intro u hu; simp at hu; rcases hu with rfl | rfl <;> rfl
          case c3 => unfold maxLen; omega
          case c4 => omega
          case c5 => simp; omega
          intro v1 w2 hown1 hg1 _
          have hb1 : Below w1.heap.size w1 w2 := (hbi.alloc hszi _).grown hg1 (by simp; omega) (fun k hk => (howni.lt k hk).1)
          have hown2 : w2.ownsRow w1.heap.size 106 2 v1 (j + 1) (rc (R.take (j + 1))) := by
            rw [HTS.out, rc_append]; exact hown1
          clear hown1 hg1 howni hbi cW2 c2 c3
          go_wp2
          go_roundw
          case rel => exact ⟨j + 1, by omega, by go_num, hown2, hb1⟩
          case measure => simp [intOf]; omega
        · obtain rfl : j = rr[k].length := by omega
          obtain ⟨au, cu, rfl⟩ := hown_slice howni
          have e0 : (rnOf k rr[k]).take rr[k].length = rnOf k rr[k] := by rw [← rnOf_length k rr[k], List.take_length]
          rw [e0] at howni
          have hownO := hown_below hown (hbi)
          have hcpO := hcp.below hbi
          have hu0 := own_mono howni hsz
          have hlt' : k < (rsOf rr).length := by rw [rsOf_length]; exact hlt
          have hu1 : wr.ownsRow w.heap.size 106 2 (.slice au rr[k].length cu) (rsOf rr)[k].length (rc (rsOf rr)[k]) := by
            rw [rsOf_at rr k hlt, rnOf_length]; exact hu0
          clear h1 h2 c1 cW hcell hI0 hcp hown
          have hB1 : Below w.heap.size w wr := hb.trans (hbi.mono hsz)
          go_wp2_with (at_builtin; refine wpList_append_own _ rfl (.tmp 56) (.tmp 58) 103 rfl w.heap.size 104 i1 (.slice none 0 0) 1 24 Tryz.underlying103 hi1 hy0 hy1 hy2 rfl (by decide) _ _ _ rfl (hownO.alloc _) ⟨wr.heap.size, 0, none⟩ 1 1 [.slice au rr[k].length cu] rfl rfl ?c1 ?c2 ?c3 ?c4 ?c5 ?_)
          case c1 => exact one_new wr _ _
          case c2 => intro u hu; simp at hu; subst hu; rfl
          case c3 => unfold maxLen; omega
          case c4 => omega
          case c5 => simp; omega
          intro v1 w2 hown1 hg1 _
          have hba : Below wr.heap.size wr (wr.alloc (.cells #[.slice au rr[k].length cu] 104)) := (Below.refl _ _).alloc (Nat.le_refl _) _
          have hb1 : Below w.heap.size w w2 := (hB1.alloc hB1.size _).grown hg1 (by simp; omega) (fun k hk => (hownO.lt k hk).1)
          have hcp2 : Copied w2 w.heap.size (vs ++ [.slice au rr[k].length cu]) (rsOf rr) (k + 1) := (hcpO.below hba).snoc (hown_below hownO hba) hg1 hlt' (hown_below hu1 hba)
          clear hg1 hownO hcpO hu0 hu1 howni hbi cW2 c2 hba
          go_wp2
          go_roundw
          case rel => exact ⟨k + 1, _, by omega, by go_num, by rw [HLS.out]; go_num, hown1, hcp2, hb1⟩
          case measure => simp [intOf]; omega
    · obtain rfl : k = rr.length := by omega
      rw [List.take_length]
      have hRA : RunsAt wr _ (rsOf rr) := runs_of_copied (rs := rsOf rr) (by rw [rsOf_length]; exact hown) (by rw [rsOf_length]; exact hcp)
      obtain ⟨ao, co, rfl⟩ := hown_slice hown
      have hI1 := hI0.below hb
      have hlen : ∀ r ∈ rr, r.length ≤ 1048576 := fun r hr => Nat.le_trans (lens_mem hr) hl
      obtain ⟨i2, hi2, hx0, hx1, hx2⟩ := info_parts Tryz.infoInt
      have HPM : Hid (Calls Tryz.prog 39 #[.slice ao rr.length co, .int .i64 n] wr fun e w2 => ∃ al cl tr got, e = .returned (.tuple #[.slice al got.length cl, .bool false]) ∧ Hid (got.length = wantN n (lens rr)) ∧ got.length ≤ 1048576 ∧ Check w2 rr tr got al cl ∧ IRunsAt w2 (.slice a rr.length c) rr ∧ w2.cell? ⟨Wb, 10, none⟩ = some (.slice a rr.length c) ∧ Wb < w2.heap.size ∧ w.heap.size ≤ w2.heap.size ∧ Below w.heap.size w w2) := by
        refine (pmerge wr _ (rsOf rr) n hRA (by rw [rsOf_length]; exact hn) (rsOf_lens hlen) (rsOf_rises hS) (by rw [rsOf_total]; exact hl)).mono ?_
        rintro e w2 ⟨lv, tr, got, rfl, hT, hln, ho, hb2⟩
        obtain ⟨al, cl, rfl⟩ := hown_slice ho
        have := hT.len
        have hs2 := hb2.size
        exact ⟨al, cl, tr, got, rfl, (show got.length = wantN n (lens rr) by rw [this, hln, rsOf_total]), (by have h1 := hT.le_total; rw [rsOf_total] at h1; omega), ⟨hT, ⟨_, ho⟩⟩, hI1.below hb2, (hb2.cell (p := ⟨Wb, 10, none⟩) (by show Wb < _; omega)).trans cW, by omega, by omega, hb.trans (hb2.mono hsz)⟩
      clear hRA hcp hown hI1 hI0 hcell hW hi hi1
      generalize hLR : lens rr = T at *
      have hmk := fun w2 : World => run_make_full (P := Tryz.prog) w2 w2.heap.size 66 3 i2 (.int .i64 0) 1 Tryz.underlying66 hi2 hx0 hx1 .i64 .i64 rr.length (by rw [hx2]; omega) (by unfold maxLen; omega) (Nat.le_refl _)
      have HMK : Hid (∀ w2 : World, _) := hmk
      clear hmk
      have hcase : (1 ≤ n ∧ n < T) ∨ n < 1 ∨ (1 ≤ n ∧ (T : Int) ≤ n) := by omega
      rcases hcase with ⟨q1, q2⟩ | q1 | ⟨q1, q2⟩
      all_goals
        first
          | (have HW : Hid (∀ g : Nat, g = wantN n T → ((g : Int) != n) = false) := fun g hg => (want_eq g n T hg).1 ⟨q1, q2⟩)
          | (have HW : Hid (∀ g : Nat, g = wantN n T → ((g : Int) != (T : Int)) = false) := fun g hg => (want_eq g n T hg).2 (.inl q1))
          | (have HW : Hid (∀ g : Nat, g = wantN n T → ((g : Int) != (T : Int)) = false) := fun g hg => (want_eq g n T hg).2 (.inr q2))
        go_wp2_with (go_at_call 39; refine HPM.out.mono ?_; rintro e w2 ⟨al, cl, tr, got, rfl, hgl, hgm, hCk, hI2, cW2, hWl2, hsz2, hb2⟩; obtain ⟨w3, hrun, hown3, hg3⟩ := HMK.out w2; have hwa := HW.out _ hgl.out)
        have hb3 : Below w2.heap.size w2 w3 := (Below.refl _ _).grown hg3 (Nat.le_refl _) (fun k hk => by cases hk)
        have hP0 : w3.ownsRow w2.heap.size 3 1 (.slice (some ⟨w2.heap.size, 0, none⟩) rr.length rr.length) rr.length (ic (plc tr rr.length 0)) := by
          have e : (madeCells (Value.int .i64 0).cells (rr.length * 1)).toList = ic (plc tr rr.length 0) := by
            rw [plc_zero]
            exact made_ints rr.length
          rw [← e]; exact hown3
        clear hrun hown3 hg3 HMK HPM HW hwa hgl hsz hb cW
        go_loopw [14] (fun iv wr => ∃ k : Nat, k ≤ got.length ∧ iv = .int .i64 k ∧ wr.ownsRow w2.heap.size 3 1 (.slice (some ⟨w2.heap.size, 0, none⟩) rr.length rr.length) rr.length (ic (plc tr rr.length k)) ∧ Below w2.heap.size w2 wr) (fun iv _ => got.length - (intOf iv).toNat)
        case atStart => exact ⟨0, Nat.zero_le _, rfl, hP0, hb3⟩
        case round =>
          clear hP0 hb3
          obtain ⟨k, hk, rfl, hpl, hb4⟩ := hrel
          by_cases hkl : k < got.length
          · obtain ⟨gb, b, bi, r, cnt, len, ci, K, Tg, rfl, rfl, g0, g1, hrl, hcn, hle, ⟨t0, t1, t2, t3⟩, hgb, m1, m2, m3, m4, hsz4, HNX, HOR⟩ := chk_step hCk hI2 hlen hn k hkl hpl hb4
            have HBL : Hid (∀ o v q q', Below w2.heap.size w2 ((((wr.alloc o).drewN q).setCell ⟨w2.heap.size, r, none⟩ v).drewN q')) := fun o v q q' => below_drewN ((below_drewN (hb4.alloc hb4.size o) q).setCell (p := ⟨w2.heap.size, r, none⟩) (Nat.le_refl _) v) q'
            have HN2 : Hid (∀ o q q', ((((wr.alloc o).drewN q).setCell ⟨w2.heap.size, r, none⟩ (.int .i64 ((cnt : Int) + 1))).drewN q').ownsRow w2.heap.size 3 1 (.slice (some ⟨w2.heap.size, 0, none⟩) rr.length rr.length) rr.length (ic (plc tr rr.length (k + 1)))) := HNX
            have cW4 : ∀ o, (wr.alloc o).cell? ⟨Wb, 10, none⟩ = some (.slice (some ⟨b, 0, none⟩) rr.length c) := fun o => (World.cell?_alloc_lt wr o _ (Nat.lt_of_lt_of_le hWl2 hb4.size)).trans ((hb4.cell (p := ⟨Wb, 10, none⟩) hWl2).trans cW2)
            have hkg : (k : Int) < (got.length : Int) := by omega
            have hkm : (k : Int) ≤ 1048576 := by omega
            have hrl' : (r : Int) < (rr.length : Int) := by omega
            have hcn' : (cnt : Int) < (len : Int) := by omega
            have n1 : gb ≠ w2.heap.size := by omega
            have n2 : wr.heap.size ≠ w2.heap.size := by omega
            have d1 : decide (Tg < 0) = false := by simp; omega
            have d2 : decide ((rr.length : Int) ≤ (r : Int)) = false := by simp; omega
            clear HNX hCk hI2 hpl hb4 cW2 hlen hS
            have n3 : w2.heap.size ≠ gb := by omega
            have n4 : w2.heap.size ≠ wr.heap.size := by omega
            have HOR' : Hid (0 < k → _) := HOR
            clear HOR
            go_wp2_with fail
            go_quiet (fail)
            go_wp2_with fail
            clear m1 m2 m3 m4 cW4 g0 g1 d1 d2
            by_cases hk0 : k = 0
            · subst hk0
              go_quiet (fail)
              go_wp2
              go_roundw
              case rel => exact ⟨1, by omega, by go_num, HN2.out _ _ _, HBL.out _ _ _ _⟩
              case measure => simp [intOf]; omega
            · obtain ⟨r', K', Tg', p1, p2, p3, p4, p5, hor⟩ := HOR'.out (by omega)
              have ej : ((k : Int) - 1).toNat = k - 1 := by omega
              have q3 : (0 : Int) ≤ (k : Int) - 1 := by omega
              have q4 : (k : Int) - 1 < (got.length : Int) := by omega
              have q5 : (0 : Int) < (k : Int) := by omega
              have q6 : (1 : Int) ≤ (k : Int) := by omega
              have q7 : ¬ (k : Int) < 1 := by omega
              have d3 : decide ((0 : Int) < (k : Int)) = true := by simp; omega
              have d3' : decide (0 < k) = true := by simp; omega
              have d4 : decide (K < K') = false := by simp; omega
              rcases hor with hor | ⟨rfl, hor⟩
              · have d5 : (K' == K) = false := by simp; omega
                go_quiet (fail)
                go_wp2
                go_roundw
                case rel => exact ⟨k + 1, by omega, by go_num, HN2.out _ _ _, HBL.out _ _ _ _⟩
                case measure => simp [intOf]; omega
              · have d5 : decide ((r : Int) < (r' : Int)) = false := by simp; omega
                have d5' : decide (r < r') = false := by simp; omega
                go_quiet (fail)
                go_wp2
                go_roundw
                case rel => exact ⟨k + 1, by omega, by go_num, HN2.out _ _ _, HBL.out _ _ _ _⟩
                case measure => simp [intOf]; omega
          · obtain rfl : k = got.length := by omega
            clear hCk hI2 hpl
            go_wp2
            go_ret
            exact ⟨rfl, hb2.trans (hb4.mono hsz2)⟩
end Go.Proofs.YtibofakbhgmhiabGreatDoor
