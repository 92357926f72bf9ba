import Derived.Test.YtibofakbhgmhiabGreatDoorG4

namespace Go.Proofs.YtibofakbhgmhiabGreatDoor
open Go.RowKit Go.MuLone

set_option maxHeartbeats 4000000 in
set_option maxRecDepth 100000 in
theorem first_fail {Wb : Nat} {w : World} {cf : Cf} {cs : Array Value} (U : NM Wb w cf cs) (ok : cf.ok) {M R : Nat} (hM : cf.maps = (M : Int)) (hR : cf.reds = (R : Int)) {N : Nat} (a : Nat → Addr) (S : SL Wb w a) (hN : N < 1048576) (A B C : Int) (s t : ByteArray) (hA1 : -9223372036854775808 ≤ A) (hA2 : A ≤ 9223372036854775807) (hA : pk6 A = 3) :
    Calls Tryz.prog 25 #[.pointer (some ⟨Wb, 0, none⟩), .agg #[.int .i64 9, .int .i64 A, .int .i64 B, .int .i64 C, .string s, .string t]] w fun e w' => e = .returned (.bool true) ∧ ∃ Tb, Fin Wb cf M R Tb N w w' := by
  have hWl := lt_of_block U.blk
  have a0 : (w.alloc (.cells #[.int .i64 9, .int .i64 A, .int .i64 B, .int .i64 C, .string s, .string t] 45)).heap[Wb]? = some (.cells cs 43 (0, 0)) := by rw [Below.heap_alloc w _ Wb hWl]; exact U.blk
  have c12 : (w.alloc (.cells #[.int .i64 9, .int .i64 A, .int .i64 B, .int .i64 C, .string s, .string t] 45)).cell? ⟨Wb, 12, none⟩ = some (.bool false) := (cell_of a0).trans U.c12
  have f12 : (w.alloc (.cells #[.int .i64 9, .int .i64 A, .int .i64 B, .int .i64 C, .string s, .string t] 45)).frozen? ⟨Wb, 12, none⟩ = false := frozen_put a0
  have hC : Hid (Calls Tryz.prog 35 #[.pointer (some ⟨Wb, 0, none⟩)] ((w.setCell ⟨Wb, 12, none⟩ (.bool true)).alloc (.cells #[.int .i64 9, .int .i64 A, .int .i64 B, .int .i64 C, .string s, .string t] 45)) fun e w1 => e = .returned (.agg #[.int .i64 cf.maps, .int .i64 cf.reds, .int .i64 cf.wrk, .int .i64 cf.att, .int .i64 cf.bck, .int .i64 cf.lease, .int .i64 cf.late, .int .i64 cf.cap]) ∧
      Calls Tryz.prog 12 #[.agg #[.int .i64 cf.maps, .int .i64 cf.reds, .int .i64 cf.wrk, .int .i64 cf.att, .int .i64 cf.bck, .int .i64 cf.lease, .int .i64 cf.late, .int .i64 cf.cap]] (w1.alloc (.cells #[.int .i64 cf.maps, .int .i64 cf.reds, .int .i64 cf.wrk, .int .i64 cf.att, .int .i64 cf.bck, .int .i64 cf.lease, .int .i64 cf.late, .int .i64 cf.cap] 36)) fun e w3 => ∃ Tb, e = .returned (.tuple #[.pointer (some ⟨Tb, 0, none⟩), .int .i64 0]) ∧ (w3.heap[w1.heap.size]? = some (.cells #[.int .i64 cf.maps, .int .i64 cf.reds, .int .i64 cf.wrk, .int .i64 cf.att, .int .i64 cf.bck, .int .i64 cf.lease, .int .i64 cf.late, .int .i64 cf.cap] 36 (0, 0)) ∧ w3.cell? ⟨Wb, 13, none⟩ = some (.int .i64 0) ∧ w3.cell? ⟨Wb, 14, none⟩ = some (.int .i64 0) ∧ w3.cell? ⟨Wb, 15, none⟩ = some (.int .i64 0) ∧ w3.cell? ⟨Wb, 16, none⟩ = some (.int .i64 0) ∧ w3.cell? ⟨Wb, 17, none⟩ = some (.int .i64 0) ∧ w3.cell? ⟨Wb, 18, none⟩ = some (.int .i64 0) ∧ w3.cell? ⟨Wb, 19, none⟩ = some (.int .i64 0) ∧ w3.cell? ⟨Wb, 20, none⟩ = some (.int .i64 0) ∧ w3.cell? ⟨Wb, 11, none⟩ = some (.pointer none) ∧ (∀ j, w3.frozen? ⟨Wb, j, none⟩ = false)) ∧ Hid (PW Wb w cf M R N (.cells #[.int .i64 9, .int .i64 A, .int .i64 B, .int .i64 C, .string s, .string t] 45) (((((((((w3.setCell ⟨Wb, 13, none⟩ (.int .i64 cf.maps)).setCell ⟨Wb, 14, none⟩ (.int .i64 cf.reds)).setCell ⟨Wb, 15, none⟩ (.int .i64 cf.wrk)).setCell ⟨Wb, 16, none⟩ (.int .i64 cf.att)).setCell ⟨Wb, 17, none⟩ (.int .i64 cf.bck)).setCell ⟨Wb, 18, none⟩ (.int .i64 cf.lease)).setCell ⟨Wb, 19, none⟩ (.int .i64 cf.late)).setCell ⟨Wb, 20, none⟩ (.int .i64 cf.cap)).setCell ⟨Wb, 11, none⟩ (.pointer (some ⟨Tb, 0, none⟩))))) := U.pre ok hM hR N A B C s t
  have hpk : Hid (∀ W, Calls Tryz.prog 19 #[.int .i64 A, .int .i64 6] W fun e w' => e = .returned (.int .i64 3) ∧ w' = W) := fun W => by
    have := pick6 A W hA1 hA2
    rw [hA] at this
    exact this
  have HS : Hid (SL Wb w a) := S
  clear S U a0 ok hM hR
  go_enter Tryz.func25, Tryz.ntmps25
  go_upto_if 22 with fail
  go_cut [] from 18 (fun wc => Hid (PW Wb w cf M R N (.cells #[.int .i64 9, .int .i64 A, .int .i64 B, .int .i64 C, .string s, .string t] 45) wc))
  case first =>
    go_wp2_with (first | (go_at_call 35; refine hC.out.mono ?_; rintro e w1 ⟨rfl, HN⟩) | (go_at_call 12; refine HN.mono ?_; rintro e w3 ⟨Tb, rfl, ⟨q1, k13, k14, k15, k16, k17, k18, k19, k20, k11, kf⟩, hfin⟩; have g0 : w3.cell? ⟨w1.heap.size, 0, none⟩ = some (.int .i64 cf.maps) := (by simp [World.cell?, q1]); have g1 : w3.cell? ⟨w1.heap.size, 1, none⟩ = some (.int .i64 cf.reds) := (by simp [World.cell?, q1]); have g2 : w3.cell? ⟨w1.heap.size, 2, none⟩ = some (.int .i64 cf.wrk) := (by simp [World.cell?, q1]); have g3 : w3.cell? ⟨w1.heap.size, 3, none⟩ = some (.int .i64 cf.att) := (by simp [World.cell?, q1]); have g4 : w3.cell? ⟨w1.heap.size, 4, none⟩ = some (.int .i64 cf.bck) := (by simp [World.cell?, q1]); have g5 : w3.cell? ⟨w1.heap.size, 5, none⟩ = some (.int .i64 cf.lease) := (by simp [World.cell?, q1]); have g6 : w3.cell? ⟨w1.heap.size, 6, none⟩ = some (.int .i64 cf.late) := (by simp [World.cell?, q1]); have g7 : w3.cell? ⟨w1.heap.size, 7, none⟩ = some (.int .i64 cf.cap) := (by simp [World.cell?, q1])))
    go_meet
    case rel => exact hfin
  case rest =>
    obtain ⟨Tb, tv, vs, L, lb, lf, hop⟩ := hcut.out
    have S1 := HS.out.low lb
    obtain ⟨hM, hR, b1, b2, b3, b4, b5, b6⟩ := L.bounds (Nat.le_of_lt hN)
    have c11 := L.t
    have cA : wc.cell? ⟨w.heap.size, 1, none⟩ = some (.int .i64 A) := by simp [World.cell?, hop]
    have cB : wc.cell? ⟨w.heap.size, 2, none⟩ = some (.int .i64 B) := by simp [World.cell?, hop]
    have cC : wc.cell? ⟨w.heap.size, 3, none⟩ = some (.int .i64 C) := by simp [World.cell?, hop]
    have L0 := L.below (Below.refl wc.heap.size wc).drew
    have lb0 : Below Wb w wc.drew := lb.drew
    have lf0 : Fc Wb w wc.drew := lf.trans (Fc.of_below (Below.refl wc.heap.size wc).drew)
    have S0 := HS.out.low lb0
    have hop0 : wc.drew.heap[w.heap.size]? = some (.cells #[.int .i64 9, .int .i64 A, .int .i64 B, .int .i64 C, .string s, .string t] 45 (0, 0)) := hop
    have HP : Hid (Calls Tryz.prog 43 #[.pointer (some ⟨Tb, 0, none⟩), .int .i64 B] wc.drew fun e w1 => ∃ n, e = .returned (.int .i64 n) ∧ (n == 0) = false ∧ (w1.cell? ⟨w.heap.size, 2, none⟩ = some (.int .i64 B) ∧ w1.cell? ⟨w.heap.size, 3, none⟩ = some (.int .i64 C) ∧ w1.cell? ⟨Wb, 11, none⟩ = some (.pointer (some ⟨Tb, 0, none⟩))) ∧ Calls Tryz.prog 42 #[.pointer (some ⟨Wb, 0, none⟩), .int .i64 B, .int .i64 n] w1 fun e w2 => e = .returned (.bool true) ∧ Hid (Fin Wb cf M R Tb N w w2)) := by
      refine (pFail L0.T L0.WT B a S0 (by simp [bk0]; omega) b4).mono ?_
      rintro e w1 ⟨n, e0, bk', rfl, hn, hr, hS⟩
      obtain ⟨_, K1, _, ⟨t1, _⟩, _, _⟩ := L0.stands hS
      have ho := hS.2.2.block _ _ _ _ hop0 (by decide) (by decide) (by decide)
      rcases hr with ⟨hno, rfl⟩ | ⟨hin, rfl, k, i, hh, hk, rfl⟩
      · obtain ⟨hf, hn0⟩ := no_fits L.rel S0.s hno hn
        refine ⟨n, rfl, by simpa using hn0, ⟨by simp [World.cell?, ho], by simp [World.cell?, ho], t1⟩, (fits K1 B n b5 b6 L.rel.hd hf).mono ?_⟩
        rintro e w2 ⟨rfl, hb2⟩
        obtain ⟨f1, f2, f3⟩ := L0.same hS hb2
        exact ⟨rfl, f1, lb0.trans f2, lf0.trans f3⟩
      · exact absurd hh bk0_has
    clear L lb lf hop S1 L0 lb0 lf0 S0 hop0 b3 b4 hcut HS hC
    go_wp2_with (go_at_call 19; refine (hpk.out _).mono ?_; rintro e w' ⟨rfl, rfl⟩)
    go_region_held3 (fun W => W.cell? ⟨Wb, 11, none⟩ = some (.pointer (some ⟨Tb, 0, none⟩)) ∧ W.cell? ⟨w.heap.size, 2, none⟩ = some (.int .i64 B)) (first | exact ⟨c11, cB⟩ | go_keep) ((go_at_call 43; refine HP.out.mono ?_; rintro e w1 ⟨n, rfl, hn0, ⟨q2, q3, q11⟩, HF⟩))
    go_wp2_with (go_at_call 42; refine HF.mono ?_; rintro e w2 ⟨rfl, hfin⟩)
    go_ret
    exact ⟨rfl, Tb, hfin.out⟩
end Go.Proofs.YtibofakbhgmhiabGreatDoor

namespace Go.Proofs.YtibofakbhgmhiabGreatDoor
open Go.RowKit Go.MuLone

set_option maxHeartbeats 4000000 in
set_option maxRecDepth 100000 in
theorem first_commit {Wb : Nat} {w : World} {cf : Cf} {cs : Array Value} (U : NM Wb w cf cs) (ok : cf.ok) {M R : Nat} (hM : cf.maps = (M : Int)) (hR : cf.reds = (R : Int)) {N : Nat} (a : Nat → Addr) (S : SL Wb w a) (hN : N < 1048576) (A B C : Int) (s t : ByteArray) (hA1 : -9223372036854775808 ≤ A) (hA2 : A ≤ 9223372036854775807) (hA : pk6 A = 2) :
    Calls Tryz.prog 25 #[.pointer (some ⟨Wb, 0, none⟩), .agg #[.int .i64 9, .int .i64 A, .int .i64 B, .int .i64 C, .string s, .string t]] w fun e w' => e = .returned (.bool true) ∧ ∃ Tb, Fin Wb cf M R Tb N w w' := by
  have hWl := lt_of_block U.blk
  have a0 : (w.alloc (.cells #[.int .i64 9, .int .i64 A, .int .i64 B, .int .i64 C, .string s, .string t] 45)).heap[Wb]? = some (.cells cs 43 (0, 0)) := by rw [Below.heap_alloc w _ Wb hWl]; exact U.blk
  have c12 : (w.alloc (.cells #[.int .i64 9, .int .i64 A, .int .i64 B, .int .i64 C, .string s, .string t] 45)).cell? ⟨Wb, 12, none⟩ = some (.bool false) := (cell_of a0).trans U.c12
  have f12 : (w.alloc (.cells #[.int .i64 9, .int .i64 A, .int .i64 B, .int .i64 C, .string s, .string t] 45)).frozen? ⟨Wb, 12, none⟩ = false := frozen_put a0
  have hC : Hid (Calls Tryz.prog 35 #[.pointer (some ⟨Wb, 0, none⟩)] ((w.setCell ⟨Wb, 12, none⟩ (.bool true)).alloc (.cells #[.int .i64 9, .int .i64 A, .int .i64 B, .int .i64 C, .string s, .string t] 45)) fun e w1 => e = .returned (.agg #[.int .i64 cf.maps, .int .i64 cf.reds, .int .i64 cf.wrk, .int .i64 cf.att, .int .i64 cf.bck, .int .i64 cf.lease, .int .i64 cf.late, .int .i64 cf.cap]) ∧
      Calls Tryz.prog 12 #[.agg #[.int .i64 cf.maps, .int .i64 cf.reds, .int .i64 cf.wrk, .int .i64 cf.att, .int .i64 cf.bck, .int .i64 cf.lease, .int .i64 cf.late, .int .i64 cf.cap]] (w1.alloc (.cells #[.int .i64 cf.maps, .int .i64 cf.reds, .int .i64 cf.wrk, .int .i64 cf.att, .int .i64 cf.bck, .int .i64 cf.lease, .int .i64 cf.late, .int .i64 cf.cap] 36)) fun e w3 => ∃ Tb, e = .returned (.tuple #[.pointer (some ⟨Tb, 0, none⟩), .int .i64 0]) ∧ (w3.heap[w1.heap.size]? = some (.cells #[.int .i64 cf.maps, .int .i64 cf.reds, .int .i64 cf.wrk, .int .i64 cf.att, .int .i64 cf.bck, .int .i64 cf.lease, .int .i64 cf.late, .int .i64 cf.cap] 36 (0, 0)) ∧ w3.cell? ⟨Wb, 13, none⟩ = some (.int .i64 0) ∧ w3.cell? ⟨Wb, 14, none⟩ = some (.int .i64 0) ∧ w3.cell? ⟨Wb, 15, none⟩ = some (.int .i64 0) ∧ w3.cell? ⟨Wb, 16, none⟩ = some (.int .i64 0) ∧ w3.cell? ⟨Wb, 17, none⟩ = some (.int .i64 0) ∧ w3.cell? ⟨Wb, 18, none⟩ = some (.int .i64 0) ∧ w3.cell? ⟨Wb, 19, none⟩ = some (.int .i64 0) ∧ w3.cell? ⟨Wb, 20, none⟩ = some (.int .i64 0) ∧ w3.cell? ⟨Wb, 11, none⟩ = some (.pointer none) ∧ (∀ j, w3.frozen? ⟨Wb, j, none⟩ = false)) ∧ Hid (PW Wb w cf M R N (.cells #[.int .i64 9, .int .i64 A, .int .i64 B, .int .i64 C, .string s, .string t] 45) (((((((((w3.setCell ⟨Wb, 13, none⟩ (.int .i64 cf.maps)).setCell ⟨Wb, 14, none⟩ (.int .i64 cf.reds)).setCell ⟨Wb, 15, none⟩ (.int .i64 cf.wrk)).setCell ⟨Wb, 16, none⟩ (.int .i64 cf.att)).setCell ⟨Wb, 17, none⟩ (.int .i64 cf.bck)).setCell ⟨Wb, 18, none⟩ (.int .i64 cf.lease)).setCell ⟨Wb, 19, none⟩ (.int .i64 cf.late)).setCell ⟨Wb, 20, none⟩ (.int .i64 cf.cap)).setCell ⟨Wb, 11, none⟩ (.pointer (some ⟨Tb, 0, none⟩))))) := U.pre ok hM hR N A B C s t
  have hpk : Hid (∀ W, Calls Tryz.prog 19 #[.int .i64 A, .int .i64 6] W fun e w' => e = .returned (.int .i64 2) ∧ w' = W) := fun W => by
    have := pick6 A W hA1 hA2
    rw [hA] at this
    exact this
  have HS : Hid (SL Wb w a) := S
  clear S U a0 ok hM hR
  go_enter Tryz.func25, Tryz.ntmps25
  go_upto_if 22 with fail
  go_cut [] from 18 (fun wc => Hid (PW Wb w cf M R N (.cells #[.int .i64 9, .int .i64 A, .int .i64 B, .int .i64 C, .string s, .string t] 45) wc))
  case first =>
    go_wp2_with (first | (go_at_call 35; refine hC.out.mono ?_; rintro e w1 ⟨rfl, HN⟩) | (go_at_call 12; refine HN.mono ?_; rintro e w3 ⟨Tb, rfl, ⟨q1, k13, k14, k15, k16, k17, k18, k19, k20, k11, kf⟩, hfin⟩; have g0 : w3.cell? ⟨w1.heap.size, 0, none⟩ = some (.int .i64 cf.maps) := (by simp [World.cell?, q1]); have g1 : w3.cell? ⟨w1.heap.size, 1, none⟩ = some (.int .i64 cf.reds) := (by simp [World.cell?, q1]); have g2 : w3.cell? ⟨w1.heap.size, 2, none⟩ = some (.int .i64 cf.wrk) := (by simp [World.cell?, q1]); have g3 : w3.cell? ⟨w1.heap.size, 3, none⟩ = some (.int .i64 cf.att) := (by simp [World.cell?, q1]); have g4 : w3.cell? ⟨w1.heap.size, 4, none⟩ = some (.int .i64 cf.bck) := (by simp [World.cell?, q1]); have g5 : w3.cell? ⟨w1.heap.size, 5, none⟩ = some (.int .i64 cf.lease) := (by simp [World.cell?, q1]); have g6 : w3.cell? ⟨w1.heap.size, 6, none⟩ = some (.int .i64 cf.late) := (by simp [World.cell?, q1]); have g7 : w3.cell? ⟨w1.heap.size, 7, none⟩ = some (.int .i64 cf.cap) := (by simp [World.cell?, q1])))
    go_meet
    case rel => exact hfin
  case rest =>
    obtain ⟨Tb, tv, vs, L, lb, lf, hop⟩ := hcut.out
    have S1 := HS.out.low lb
    obtain ⟨hM, hR, b1, b2, b3, b4, b5, b6⟩ := L.bounds (Nat.le_of_lt hN)
    have c11 := L.t
    have cA : wc.cell? ⟨w.heap.size, 1, none⟩ = some (.int .i64 A) := by simp [World.cell?, hop]
    have cB : wc.cell? ⟨w.heap.size, 2, none⟩ = some (.int .i64 B) := by simp [World.cell?, hop]
    have cC : wc.cell? ⟨w.heap.size, 3, none⟩ = some (.int .i64 C) := by simp [World.cell?, hop]
    have L0 := L.below (Below.refl wc.heap.size wc).drew
    have lb0 : Below Wb w wc.drew := lb.drew
    have lf0 : Fc Wb w wc.drew := lf.trans (Fc.of_below (Below.refl wc.heap.size wc).drew)
    have S0 := HS.out.low lb0
    have hop0 : wc.drew.heap[w.heap.size]? = some (.cells #[.int .i64 9, .int .i64 A, .int .i64 B, .int .i64 C, .string s, .string t] 45 (0, 0)) := hop
    have HP : Hid (Calls Tryz.prog 14 #[.pointer (some ⟨Tb, 0, none⟩), .int .i64 B] wc.drew fun e w1 => ∃ n, e = .returned (.int .i64 n) ∧ (n == 0) = false ∧ (w1.cell? ⟨w.heap.size, 2, none⟩ = some (.int .i64 B) ∧ w1.cell? ⟨w.heap.size, 3, none⟩ = some (.int .i64 C) ∧ w1.cell? ⟨Wb, 11, none⟩ = some (.pointer (some ⟨Tb, 0, none⟩))) ∧ Calls Tryz.prog 42 #[.pointer (some ⟨Wb, 0, none⟩), .int .i64 B, .int .i64 n] w1 fun e w2 => e = .returned (.bool true) ∧ Hid (Fin Wb cf M R Tb N w w2)) := by
      refine (pCommit L0.T L0.WT B a S0 (by simp [bk0]; omega) b4 R L.hR hR.2).mono ?_
      rintro e w1 ⟨n, e0, bk', rfl, hn, hr, hS⟩
      obtain ⟨_, K1, _, ⟨t1, _⟩, _, _⟩ := L0.stands hS
      have ho := hS.2.2.block _ _ _ _ hop0 (by decide) (by decide) (by decide)
      rcases hr with ⟨hno, rfl⟩ | ⟨hin, rfl, k, i, hh, hk, rfl⟩
      · obtain ⟨hf, hn0⟩ := no_fits L.rel S0.s hno hn
        refine ⟨n, rfl, by simpa using hn0, ⟨by simp [World.cell?, ho], by simp [World.cell?, ho], t1⟩, (fits K1 B n b5 b6 L.rel.hd hf).mono ?_⟩
        rintro e w2 ⟨rfl, hb2⟩
        obtain ⟨f1, f2, f3⟩ := L0.same hS hb2
        exact ⟨rfl, f1, lb0.trans f2, lf0.trans f3⟩
      · exact absurd hh bk0_has
    clear L lb lf hop S1 L0 lb0 lf0 S0 hop0 b3 b4 hcut HS hC
    go_wp2_with (go_at_call 19; refine (hpk.out _).mono ?_; rintro e w' ⟨rfl, rfl⟩)
    go_region_held3 (fun W => W.cell? ⟨Wb, 11, none⟩ = some (.pointer (some ⟨Tb, 0, none⟩)) ∧ W.cell? ⟨w.heap.size, 2, none⟩ = some (.int .i64 B)) (first | exact ⟨c11, cB⟩ | go_keep) ((go_at_call 14; refine HP.out.mono ?_; rintro e w1 ⟨n, rfl, hn0, ⟨q2, q3, q11⟩, HF⟩))
    go_wp2_with (go_at_call 42; refine HF.mono ?_; rintro e w2 ⟨rfl, hfin⟩)
    go_ret
    exact ⟨rfl, Tb, hfin.out⟩
end Go.Proofs.YtibofakbhgmhiabGreatDoor

namespace Go.Proofs.YtibofakbhgmhiabGreatDoor
open Go.RowKit Go.MuLone

set_option maxHeartbeats 4000000 in
set_option maxRecDepth 100000 in
theorem first_beat {Wb : Nat} {w : World} {cf : Cf} {cs : Array Value} (U : NM Wb w cf cs) (ok : cf.ok) {M R : Nat} (hM : cf.maps = (M : Int)) (hR : cf.reds = (R : Int)) {N : Nat} (a : Nat → Addr) (S : SL Wb w a) (hN : N < 1048576) (A B C : Int) (s t : ByteArray) (hA1 : -9223372036854775808 ≤ A) (hA2 : A ≤ 9223372036854775807) (hA : pk6 A = 1) (hC0 : 0 ≤ C ∧ C ≤ 100) :
    Calls Tryz.prog 25 #[.pointer (some ⟨Wb, 0, none⟩), .agg #[.int .i64 9, .int .i64 A, .int .i64 B, .int .i64 C, .string s, .string t]] w fun e w' => e = .returned (.bool true) ∧ ∃ Tb, Fin Wb cf M R Tb N w w' := by
  have hWl := lt_of_block U.blk
  have a0 : (w.alloc (.cells #[.int .i64 9, .int .i64 A, .int .i64 B, .int .i64 C, .string s, .string t] 45)).heap[Wb]? = some (.cells cs 43 (0, 0)) := by rw [Below.heap_alloc w _ Wb hWl]; exact U.blk
  have c12 : (w.alloc (.cells #[.int .i64 9, .int .i64 A, .int .i64 B, .int .i64 C, .string s, .string t] 45)).cell? ⟨Wb, 12, none⟩ = some (.bool false) := (cell_of a0).trans U.c12
  have f12 : (w.alloc (.cells #[.int .i64 9, .int .i64 A, .int .i64 B, .int .i64 C, .string s, .string t] 45)).frozen? ⟨Wb, 12, none⟩ = false := frozen_put a0
  have hC : Hid (Calls Tryz.prog 35 #[.pointer (some ⟨Wb, 0, none⟩)] ((w.setCell ⟨Wb, 12, none⟩ (.bool true)).alloc (.cells #[.int .i64 9, .int .i64 A, .int .i64 B, .int .i64 C, .string s, .string t] 45)) fun e w1 => e = .returned (.agg #[.int .i64 cf.maps, .int .i64 cf.reds, .int .i64 cf.wrk, .int .i64 cf.att, .int .i64 cf.bck, .int .i64 cf.lease, .int .i64 cf.late, .int .i64 cf.cap]) ∧
      Calls Tryz.prog 12 #[.agg #[.int .i64 cf.maps, .int .i64 cf.reds, .int .i64 cf.wrk, .int .i64 cf.att, .int .i64 cf.bck, .int .i64 cf.lease, .int .i64 cf.late, .int .i64 cf.cap]] (w1.alloc (.cells #[.int .i64 cf.maps, .int .i64 cf.reds, .int .i64 cf.wrk, .int .i64 cf.att, .int .i64 cf.bck, .int .i64 cf.lease, .int .i64 cf.late, .int .i64 cf.cap] 36)) fun e w3 => ∃ Tb, e = .returned (.tuple #[.pointer (some ⟨Tb, 0, none⟩), .int .i64 0]) ∧ (w3.heap[w1.heap.size]? = some (.cells #[.int .i64 cf.maps, .int .i64 cf.reds, .int .i64 cf.wrk, .int .i64 cf.att, .int .i64 cf.bck, .int .i64 cf.lease, .int .i64 cf.late, .int .i64 cf.cap] 36 (0, 0)) ∧ w3.cell? ⟨Wb, 13, none⟩ = some (.int .i64 0) ∧ w3.cell? ⟨Wb, 14, none⟩ = some (.int .i64 0) ∧ w3.cell? ⟨Wb, 15, none⟩ = some (.int .i64 0) ∧ w3.cell? ⟨Wb, 16, none⟩ = some (.int .i64 0) ∧ w3.cell? ⟨Wb, 17, none⟩ = some (.int .i64 0) ∧ w3.cell? ⟨Wb, 18, none⟩ = some (.int .i64 0) ∧ w3.cell? ⟨Wb, 19, none⟩ = some (.int .i64 0) ∧ w3.cell? ⟨Wb, 20, none⟩ = some (.int .i64 0) ∧ w3.cell? ⟨Wb, 11, none⟩ = some (.pointer none) ∧ (∀ j, w3.frozen? ⟨Wb, j, none⟩ = false)) ∧ Hid (PW Wb w cf M R N (.cells #[.int .i64 9, .int .i64 A, .int .i64 B, .int .i64 C, .string s, .string t] 45) (((((((((w3.setCell ⟨Wb, 13, none⟩ (.int .i64 cf.maps)).setCell ⟨Wb, 14, none⟩ (.int .i64 cf.reds)).setCell ⟨Wb, 15, none⟩ (.int .i64 cf.wrk)).setCell ⟨Wb, 16, none⟩ (.int .i64 cf.att)).setCell ⟨Wb, 17, none⟩ (.int .i64 cf.bck)).setCell ⟨Wb, 18, none⟩ (.int .i64 cf.lease)).setCell ⟨Wb, 19, none⟩ (.int .i64 cf.late)).setCell ⟨Wb, 20, none⟩ (.int .i64 cf.cap)).setCell ⟨Wb, 11, none⟩ (.pointer (some ⟨Tb, 0, none⟩))))) := U.pre ok hM hR N A B C s t
  have hpk : Hid (∀ W, Calls Tryz.prog 19 #[.int .i64 A, .int .i64 6] W fun e w' => e = .returned (.int .i64 1) ∧ w' = W) := fun W => by
    have := pick6 A W hA1 hA2
    rw [hA] at this
    exact this
  have HS : Hid (SL Wb w a) := S
  clear S U a0 ok hM hR
  go_enter Tryz.func25, Tryz.ntmps25
  go_upto_if 22 with fail
  go_cut [] from 18 (fun wc => Hid (PW Wb w cf M R N (.cells #[.int .i64 9, .int .i64 A, .int .i64 B, .int .i64 C, .string s, .string t] 45) wc))
  case first =>
    go_wp2_with (first | (go_at_call 35; refine hC.out.mono ?_; rintro e w1 ⟨rfl, HN⟩) | (go_at_call 12; refine HN.mono ?_; rintro e w3 ⟨Tb, rfl, ⟨q1, k13, k14, k15, k16, k17, k18, k19, k20, k11, kf⟩, hfin⟩; have g0 : w3.cell? ⟨w1.heap.size, 0, none⟩ = some (.int .i64 cf.maps) := (by simp [World.cell?, q1]); have g1 : w3.cell? ⟨w1.heap.size, 1, none⟩ = some (.int .i64 cf.reds) := (by simp [World.cell?, q1]); have g2 : w3.cell? ⟨w1.heap.size, 2, none⟩ = some (.int .i64 cf.wrk) := (by simp [World.cell?, q1]); have g3 : w3.cell? ⟨w1.heap.size, 3, none⟩ = some (.int .i64 cf.att) := (by simp [World.cell?, q1]); have g4 : w3.cell? ⟨w1.heap.size, 4, none⟩ = some (.int .i64 cf.bck) := (by simp [World.cell?, q1]); have g5 : w3.cell? ⟨w1.heap.size, 5, none⟩ = some (.int .i64 cf.lease) := (by simp [World.cell?, q1]); have g6 : w3.cell? ⟨w1.heap.size, 6, none⟩ = some (.int .i64 cf.late) := (by simp [World.cell?, q1]); have g7 : w3.cell? ⟨w1.heap.size, 7, none⟩ = some (.int .i64 cf.cap) := (by simp [World.cell?, q1])))
    go_meet
    case rel => exact hfin
  case rest =>
    obtain ⟨Tb, tv, vs, L, lb, lf, hop⟩ := hcut.out
    have S1 := HS.out.low lb
    obtain ⟨hM, hR, b1, b2, b3, b4, b5, b6⟩ := L.bounds (Nat.le_of_lt hN)
    have c11 := L.t
    have cA : wc.cell? ⟨w.heap.size, 1, none⟩ = some (.int .i64 A) := by simp [World.cell?, hop]
    have cB : wc.cell? ⟨w.heap.size, 2, none⟩ = some (.int .i64 B) := by simp [World.cell?, hop]
    have cC : wc.cell? ⟨w.heap.size, 3, none⟩ = some (.int .i64 C) := by simp [World.cell?, hop]
    have L0 := L.below (Below.refl wc.heap.size wc).drew
    have lb0 : Below Wb w wc.drew := lb.drew
    have lf0 : Fc Wb w wc.drew := lf.trans (Fc.of_below (Below.refl wc.heap.size wc).drew)
    have S0 := HS.out.low lb0
    have hop0 : wc.drew.heap[w.heap.size]? = some (.cells #[.int .i64 9, .int .i64 A, .int .i64 B, .int .i64 C, .string s, .string t] 45 (0, 0)) := hop
    have HP : Hid (Calls Tryz.prog 41 #[.pointer (some ⟨Tb, 0, none⟩), .int .i64 B, .int .i64 C] wc.drew fun e w1 => ∃ n, e = .returned (.int .i64 n) ∧ (n == 0) = false ∧ (w1.cell? ⟨w.heap.size, 2, none⟩ = some (.int .i64 B) ∧ w1.cell? ⟨w.heap.size, 3, none⟩ = some (.int .i64 C) ∧ w1.cell? ⟨Wb, 11, none⟩ = some (.pointer (some ⟨Tb, 0, none⟩))) ∧ Calls Tryz.prog 42 #[.pointer (some ⟨Wb, 0, none⟩), .int .i64 B, .int .i64 n] w1 fun e w2 => e = .returned (.bool true) ∧ Hid (Fin Wb cf M R Tb N w w2)) := by
      refine (pHeartbeat L0.T L0.WT B C a S0 (by simp [bk0]; omega) b4).mono ?_
      rintro e w1 ⟨n, e0, bk', rfl, hn, hr, hS⟩
      obtain ⟨_, K1, _, ⟨t1, _⟩, _, _⟩ := L0.stands hS
      have ho := hS.2.2.block _ _ _ _ hop0 (by decide) (by decide) (by decide)
      rcases hr with ⟨hno | ⟨_, hfar, _⟩, rfl⟩ | ⟨hin, _, rfl, k, i, f, hk, hi', hid, rfl⟩
      · obtain ⟨hf, hn0⟩ := no_fits L.rel S0.s hno hn
        refine ⟨n, rfl, by simpa using hn0, ⟨by simp [World.cell?, ho], by simp [World.cell?, ho], t1⟩, (fits K1 B n b5 b6 L.rel.hd hf).mono ?_⟩
        rintro e w2 ⟨rfl, hb2⟩
        obtain ⟨f1, f2, f3⟩ := L0.same hS hb2
        exact ⟨rfl, f1, lb0.trans f2, lf0.trans f3⟩
      · exact absurd hC0 hfar
      · exact absurd ⟨hk, hi', hid⟩ (bk0_has (M := M) (B := B) (k := k) (i := i))
    clear L lb lf hop S1 L0 lb0 lf0 S0 hop0 b3 b4 hcut HS hC
    go_wp2_with (go_at_call 19; refine (hpk.out _).mono ?_; rintro e w' ⟨rfl, rfl⟩)
    go_region_held3 (fun W => W.cell? ⟨Wb, 11, none⟩ = some (.pointer (some ⟨Tb, 0, none⟩)) ∧ W.cell? ⟨w.heap.size, 2, none⟩ = some (.int .i64 B) ∧ W.cell? ⟨w.heap.size, 3, none⟩ = some (.int .i64 C)) (first | exact ⟨c11, cB, cC⟩ | go_keep) ((go_at_call 41; refine HP.out.mono ?_; rintro e w1 ⟨n, rfl, hn0, ⟨q2, q3, q11⟩, HF⟩))
    have hC1 : decide (C < 0) = false := by simp; omega
    have hC2 : decide (100 < C) = false := by simp; omega
    go_wp2_with (go_at_call 42; refine HF.mono ?_; rintro e w2 ⟨rfl, hfin⟩)
    go_ret
    exact ⟨rfl, Tb, hfin.out⟩
end Go.Proofs.YtibofakbhgmhiabGreatDoor

namespace Go.Proofs.YtibofakbhgmhiabGreatDoor
open Go.RowKit Go.MuLone

set_option maxHeartbeats 4000000 in
set_option maxRecDepth 100000 in
theorem first_beatno {Wb : Nat} {w : World} {cf : Cf} {cs : Array Value} (U : NM Wb w cf cs) (ok : cf.ok) {M R : Nat} (hM : cf.maps = (M : Int)) (hR : cf.reds = (R : Int)) {N : Nat} (a : Nat → Addr) (S : SL Wb w a) (hN : N < 1048576) (A B C : Int) (s t : ByteArray) (hA1 : -9223372036854775808 ≤ A) (hA2 : A ≤ 9223372036854775807) (hA : pk6 A = 1) (hC0 : ¬ (0 ≤ C ∧ C ≤ 100)) :
    Calls Tryz.prog 25 #[.pointer (some ⟨Wb, 0, none⟩), .agg #[.int .i64 9, .int .i64 A, .int .i64 B, .int .i64 C, .string s, .string t]] w fun e w' => e = .returned (.bool true) ∧ ∃ Tb, Fin Wb cf M R Tb N w w' := by
  have hWl := lt_of_block U.blk
  have a0 : (w.alloc (.cells #[.int .i64 9, .int .i64 A, .int .i64 B, .int .i64 C, .string s, .string t] 45)).heap[Wb]? = some (.cells cs 43 (0, 0)) := by rw [Below.heap_alloc w _ Wb hWl]; exact U.blk
  have c12 : (w.alloc (.cells #[.int .i64 9, .int .i64 A, .int .i64 B, .int .i64 C, .string s, .string t] 45)).cell? ⟨Wb, 12, none⟩ = some (.bool false) := (cell_of a0).trans U.c12
  have f12 : (w.alloc (.cells #[.int .i64 9, .int .i64 A, .int .i64 B, .int .i64 C, .string s, .string t] 45)).frozen? ⟨Wb, 12, none⟩ = false := frozen_put a0
  have hC : Hid (Calls Tryz.prog 35 #[.pointer (some ⟨Wb, 0, none⟩)] ((w.setCell ⟨Wb, 12, none⟩ (.bool true)).alloc (.cells #[.int .i64 9, .int .i64 A, .int .i64 B, .int .i64 C, .string s, .string t] 45)) fun e w1 => e = .returned (.agg #[.int .i64 cf.maps, .int .i64 cf.reds, .int .i64 cf.wrk, .int .i64 cf.att, .int .i64 cf.bck, .int .i64 cf.lease, .int .i64 cf.late, .int .i64 cf.cap]) ∧
      Calls Tryz.prog 12 #[.agg #[.int .i64 cf.maps, .int .i64 cf.reds, .int .i64 cf.wrk, .int .i64 cf.att, .int .i64 cf.bck, .int .i64 cf.lease, .int .i64 cf.late, .int .i64 cf.cap]] (w1.alloc (.cells #[.int .i64 cf.maps, .int .i64 cf.reds, .int .i64 cf.wrk, .int .i64 cf.att, .int .i64 cf.bck, .int .i64 cf.lease, .int .i64 cf.late, .int .i64 cf.cap] 36)) fun e w3 => ∃ Tb, e = .returned (.tuple #[.pointer (some ⟨Tb, 0, none⟩), .int .i64 0]) ∧ (w3.heap[w1.heap.size]? = some (.cells #[.int .i64 cf.maps, .int .i64 cf.reds, .int .i64 cf.wrk, .int .i64 cf.att, .int .i64 cf.bck, .int .i64 cf.lease, .int .i64 cf.late, .int .i64 cf.cap] 36 (0, 0)) ∧ w3.cell? ⟨Wb, 13, none⟩ = some (.int .i64 0) ∧ w3.cell? ⟨Wb, 14, none⟩ = some (.int .i64 0) ∧ w3.cell? ⟨Wb, 15, none⟩ = some (.int .i64 0) ∧ w3.cell? ⟨Wb, 16, none⟩ = some (.int .i64 0) ∧ w3.cell? ⟨Wb, 17, none⟩ = some (.int .i64 0) ∧ w3.cell? ⟨Wb, 18, none⟩ = some (.int .i64 0) ∧ w3.cell? ⟨Wb, 19, none⟩ = some (.int .i64 0) ∧ w3.cell? ⟨Wb, 20, none⟩ = some (.int .i64 0) ∧ w3.cell? ⟨Wb, 11, none⟩ = some (.pointer none) ∧ (∀ j, w3.frozen? ⟨Wb, j, none⟩ = false)) ∧ Hid (PW Wb w cf M R N (.cells #[.int .i64 9, .int .i64 A, .int .i64 B, .int .i64 C, .string s, .string t] 45) (((((((((w3.setCell ⟨Wb, 13, none⟩ (.int .i64 cf.maps)).setCell ⟨Wb, 14, none⟩ (.int .i64 cf.reds)).setCell ⟨Wb, 15, none⟩ (.int .i64 cf.wrk)).setCell ⟨Wb, 16, none⟩ (.int .i64 cf.att)).setCell ⟨Wb, 17, none⟩ (.int .i64 cf.bck)).setCell ⟨Wb, 18, none⟩ (.int .i64 cf.lease)).setCell ⟨Wb, 19, none⟩ (.int .i64 cf.late)).setCell ⟨Wb, 20, none⟩ (.int .i64 cf.cap)).setCell ⟨Wb, 11, none⟩ (.pointer (some ⟨Tb, 0, none⟩))))) := U.pre ok hM hR N A B C s t
  have hpk : Hid (∀ W, Calls Tryz.prog 19 #[.int .i64 A, .int .i64 6] W fun e w' => e = .returned (.int .i64 1) ∧ w' = W) := fun W => by
    have := pick6 A W hA1 hA2
    rw [hA] at this
    exact this
  have HS : Hid (SL Wb w a) := S
  clear S U a0 ok hM hR
  go_enter Tryz.func25, Tryz.ntmps25
  go_upto_if 22 with fail
  go_cut [] from 18 (fun wc => Hid (PW Wb w cf M R N (.cells #[.int .i64 9, .int .i64 A, .int .i64 B, .int .i64 C, .string s, .string t] 45) wc))
  case first =>
    go_wp2_with (first | (go_at_call 35; refine hC.out.mono ?_; rintro e w1 ⟨rfl, HN⟩) | (go_at_call 12; refine HN.mono ?_; rintro e w3 ⟨Tb, rfl, ⟨q1, k13, k14, k15, k16, k17, k18, k19, k20, k11, kf⟩, hfin⟩; have g0 : w3.cell? ⟨w1.heap.size, 0, none⟩ = some (.int .i64 cf.maps) := (by simp [World.cell?, q1]); have g1 : w3.cell? ⟨w1.heap.size, 1, none⟩ = some (.int .i64 cf.reds) := (by simp [World.cell?, q1]); have g2 : w3.cell? ⟨w1.heap.size, 2, none⟩ = some (.int .i64 cf.wrk) := (by simp [World.cell?, q1]); have g3 : w3.cell? ⟨w1.heap.size, 3, none⟩ = some (.int .i64 cf.att) := (by simp [World.cell?, q1]); have g4 : w3.cell? ⟨w1.heap.size, 4, none⟩ = some (.int .i64 cf.bck) := (by simp [World.cell?, q1]); have g5 : w3.cell? ⟨w1.heap.size, 5, none⟩ = some (.int .i64 cf.lease) := (by simp [World.cell?, q1]); have g6 : w3.cell? ⟨w1.heap.size, 6, none⟩ = some (.int .i64 cf.late) := (by simp [World.cell?, q1]); have g7 : w3.cell? ⟨w1.heap.size, 7, none⟩ = some (.int .i64 cf.cap) := (by simp [World.cell?, q1])))
    go_meet
    case rel => exact hfin
  case rest =>
    obtain ⟨Tb, tv, vs, L, lb, lf, hop⟩ := hcut.out
    have S1 := HS.out.low lb
    obtain ⟨hM, hR, b1, b2, b3, b4, b5, b6⟩ := L.bounds (Nat.le_of_lt hN)
    have c11 := L.t
    have cA : wc.cell? ⟨w.heap.size, 1, none⟩ = some (.int .i64 A) := by simp [World.cell?, hop]
    have cB : wc.cell? ⟨w.heap.size, 2, none⟩ = some (.int .i64 B) := by simp [World.cell?, hop]
    have cC : wc.cell? ⟨w.heap.size, 3, none⟩ = some (.int .i64 C) := by simp [World.cell?, hop]
    have L0 := L.below (Below.refl wc.heap.size wc).drew
    have lb0 : Below Wb w wc.drew := lb.drew
    have lf0 : Fc Wb w wc.drew := lf.trans (Fc.of_below (Below.refl wc.heap.size wc).drew)
    have S0 := HS.out.low lb0
    have hop0 : wc.drew.heap[w.heap.size]? = some (.cells #[.int .i64 9, .int .i64 A, .int .i64 B, .int .i64 C, .string s, .string t] 45 (0, 0)) := hop
    have HP : Hid (Calls Tryz.prog 41 #[.pointer (some ⟨Tb, 0, none⟩), .int .i64 B, .int .i64 C] wc.drew fun e w1 => ∃ n, e = .returned (.int .i64 n) ∧ (w1.cell? ⟨w.heap.size, 2, none⟩ = some (.int .i64 B) ∧ w1.cell? ⟨w.heap.size, 3, none⟩ = some (.int .i64 C) ∧ w1.cell? ⟨Wb, 11, none⟩ = some (.pointer (some ⟨Tb, 0, none⟩))) ∧ (n != 0) = true ∧ Hid (Fin Wb cf M R Tb N w w1)) := by
      refine (pHeartbeat L0.T L0.WT B C a S0 (by simp [bk0]; omega) b4).mono ?_
      rintro e w1 ⟨n, e0, bk', rfl, hn, hr, hS⟩
      have ho := hS.2.2.block _ _ _ _ hop0 (by decide) (by decide) (by decide)
      obtain ⟨_, _, _, ⟨t1, _⟩, _, _⟩ := L0.stands hS
      rcases hr with ⟨hno, rfl⟩ | ⟨_, hc, _⟩
      · obtain ⟨f1, f2, f3⟩ := L0.same hS (Below.refl _ _)
        refine ⟨n, rfl, ⟨by simp [World.cell?, ho], by simp [World.cell?, ho], t1⟩, ?_, f1, lb0.trans f2, lf0.trans f3⟩
        rcases hno with hno | ⟨_, _, rfl⟩
        · have := (no_fits L.rel S0.s hno hn).2
          simpa using this
        · have := errN_at S0.s (by omega) hn
          subst this
          decide
      · exact absurd hc hC0
    have hC3 : C < 0 ∨ 100 < C := by omega
    clear L lb lf hop S1 L0 lb0 lf0 S0 hop0 b3 b4 hcut HS hC
    clear hC0
    rcases hC3 with hC3 | hC3
    · have hC1 : decide (C < 0) = true := by simp; omega
      go_wp2_with (go_at_call 19; refine (hpk.out _).mono ?_; rintro e w' ⟨rfl, rfl⟩)
      go_region_held3 (fun W => W.cell? ⟨Wb, 11, none⟩ = some (.pointer (some ⟨Tb, 0, none⟩)) ∧ W.cell? ⟨w.heap.size, 2, none⟩ = some (.int .i64 B) ∧ W.cell? ⟨w.heap.size, 3, none⟩ = some (.int .i64 C)) (first | exact ⟨c11, cB, cC⟩ | go_keep) ((go_at_call 41; refine HP.out.mono ?_; rintro e w1 ⟨n, rfl, ⟨q2, q3, q11⟩, hn0, hfin⟩))
      go_wp2
      go_ret
      exact ⟨rfl, Tb, hfin.out⟩
    · have hC1 : decide (C < 0) = false := by simp; omega
      have hC2 : decide (100 < C) = true := by simp; omega
      go_wp2_with (go_at_call 19; refine (hpk.out _).mono ?_; rintro e w' ⟨rfl, rfl⟩)
      go_region_held3 (fun W => W.cell? ⟨Wb, 11, none⟩ = some (.pointer (some ⟨Tb, 0, none⟩)) ∧ W.cell? ⟨w.heap.size, 2, none⟩ = some (.int .i64 B) ∧ W.cell? ⟨w.heap.size, 3, none⟩ = some (.int .i64 C)) (first | exact ⟨c11, cB, cC⟩ | go_keep) ((go_at_call 41; refine HP.out.mono ?_; rintro e w1 ⟨n, rfl, ⟨q2, q3, q11⟩, hn0, hfin⟩))
      go_wp2
      go_ret
      exact ⟨rfl, Tb, hfin.out⟩
end Go.Proofs.YtibofakbhgmhiabGreatDoor
