import Derived.Test.YtibofakbhgmhiabGreatDoorG2
import Derived.Test.YtibofakbhgmhiabGreatDoorG3
import Derived.Test.YtibofakbhgmhiabGreatDoorG4

namespace Go.Proofs.YtibofakbhgmhiabGreatDoor
open Go.RowKit Go.MuLone

/-- Request, whatever the table holds -/
theorem wReq {Wb : Nat} {w : World} {cf : Cf} {M R Tb : Nat} {bk : Bk} {l : List Gr} {dn : Nat → Nat → Bool} {lv tv : Value} {vs : List Value} {N : Nat} (L : LS Wb w cf M R Tb bk l dn lv tv vs N) (a : Nat → Addr) (S : SL Wb w a) (hN : N ≤ 1048576) :
    Calls Tryz.prog 40 #[.pointer (some ⟨Wb, 0, none⟩)] w fun e w' => e = .returned (.bool true) ∧ Fin Wb cf M R Tb N w w' := by
  have hph := L.rel.ph
  cases hf : bk.fl with
  | true => exact wReqA L a S hN hf
  | false =>
    by_cases h3 : bk.ph = 3
    · exact wReqB L a S hN hf h3
    · by_cases h1 : bk.ph = 1
      · exact wReqC1 L a S hN hf h1
      · exact wReqC2 L a S hN hf (by omega)

/-- a call of a table that is made -/
theorem callMade {Wb : Nat} {w : World} {cf : Cf} {M R Tb : Nat} {bk : Bk} {l : List Gr} {dn : Nat → Nat → Bool} {lv tv : Value} {vs : List Value} {N : Nat} (L : LS Wb w cf M R Tb bk l dn lv tv vs N) (a : Nat → Addr) (S : SL Wb w a) (hN : N < 1048576) (A B C : Int) (s t : ByteArray) (hA1 : -9223372036854775808 ≤ A) (hA2 : A ≤ 9223372036854775807) :
    Calls Tryz.prog 25 #[.pointer (some ⟨Wb, 0, none⟩), .agg #[.int .i64 9, .int .i64 A, .int .i64 B, .int .i64 C, .string s, .string t]] w fun e w' => e = .returned (.bool true) ∧ Fin Wb cf M R Tb N w w' := by
  have hN' := Nat.le_of_lt hN
  have hlt := pk6_lt A
  by_cases h0 : pk6 A = 0
  · have hbo : Below w.heap.size w (w.alloc (.cells #[.int .i64 9, .int .i64 A, .int .i64 B, .int .i64 C, .string s, .string t] 45)) := (Below.refl _ _).alloc (Nat.le_refl _) _
    exact callReq L A B C s t hA1 hA2 h0 (wReq (L.below hbo) a (S.low (hbo.mono (Nat.le_of_lt (hp_lt L.t)))) hN')
  by_cases h1 : pk6 A = 1
  · by_cases hC : 0 ≤ C ∧ C ≤ 100
    · exact callBeat L a S hN' A B C s t hA1 hA2 h1 hC
    · exact callBeatNo L a S hN' A B C s t hA1 hA2 h1 hC
  by_cases h2 : pk6 A = 2
  · by_cases hp : bk.ph = 1
    · exact callCommit1 L a S hN' A B C s t hA1 hA2 h2 hp
    · exact callCommit2 L a S hN' A B C s t hA1 hA2 h2 hp
  by_cases h3 : pk6 A = 3
  · exact callFail L a S hN' A B C s t hA1 hA2 h3
  by_cases h4 : pk6 A = 4
  · exact callTick L hN A B C s t hA1 hA2 h4
  · exact callStatus L hN' A B C s t hA1 hA2 (by omega)
end Go.Proofs.YtibofakbhgmhiabGreatDoor

namespace Go.Proofs.YtibofakbhgmhiabGreatDoor
open Go.RowKit Go.MuLone

set_option maxHeartbeats 4000000 in
set_option maxRecDepth 100000 in
theorem first_tick {Wb : Nat} {w : World} {cf : Cf} {cs : Array Value} (U : NM Wb w cf cs) (ok : cf.ok) {M R : Nat} (hM : cf.maps = (M : Int)) (hR : cf.reds = (R : Int)) {N : Nat} (a : Nat → Addr) (S : SL Wb w a) (hN : N < 1048576) (A B C : Int) (s t : ByteArray) (hA1 : -9223372036854775808 ≤ A) (hA2 : A ≤ 9223372036854775807) (hA : pk6 A = 4) :
    Calls Tryz.prog 25 #[.pointer (some ⟨Wb, 0, none⟩), .agg #[.int .i64 9, .int .i64 A, .int .i64 B, .int .i64 C, .string s, .string t]] w fun e w' => e = .returned (.bool true) ∧ ∃ Tb, Fin Wb cf M R Tb N w w' := by
  have hWl := lt_of_block U.blk
  have a0 : (w.alloc (.cells #[.int .i64 9, .int .i64 A, .int .i64 B, .int .i64 C, .string s, .string t] 45)).heap[Wb]? = some (.cells cs 43 (0, 0)) := by rw [Below.heap_alloc w _ Wb hWl]; exact U.blk
  have c12 : (w.alloc (.cells #[.int .i64 9, .int .i64 A, .int .i64 B, .int .i64 C, .string s, .string t] 45)).cell? ⟨Wb, 12, none⟩ = some (.bool false) := (cell_of a0).trans U.c12
  have f12 : (w.alloc (.cells #[.int .i64 9, .int .i64 A, .int .i64 B, .int .i64 C, .string s, .string t] 45)).frozen? ⟨Wb, 12, none⟩ = false := frozen_put a0
  have hC : Hid (Calls Tryz.prog 35 #[.pointer (some ⟨Wb, 0, none⟩)] ((w.setCell ⟨Wb, 12, none⟩ (.bool true)).alloc (.cells #[.int .i64 9, .int .i64 A, .int .i64 B, .int .i64 C, .string s, .string t] 45)) fun e w1 => e = .returned (.agg #[.int .i64 cf.maps, .int .i64 cf.reds, .int .i64 cf.wrk, .int .i64 cf.att, .int .i64 cf.bck, .int .i64 cf.lease, .int .i64 cf.late, .int .i64 cf.cap]) ∧
      Calls Tryz.prog 12 #[.agg #[.int .i64 cf.maps, .int .i64 cf.reds, .int .i64 cf.wrk, .int .i64 cf.att, .int .i64 cf.bck, .int .i64 cf.lease, .int .i64 cf.late, .int .i64 cf.cap]] (w1.alloc (.cells #[.int .i64 cf.maps, .int .i64 cf.reds, .int .i64 cf.wrk, .int .i64 cf.att, .int .i64 cf.bck, .int .i64 cf.lease, .int .i64 cf.late, .int .i64 cf.cap] 36)) fun e w3 => ∃ Tb, e = .returned (.tuple #[.pointer (some ⟨Tb, 0, none⟩), .int .i64 0]) ∧ (w3.heap[w1.heap.size]? = some (.cells #[.int .i64 cf.maps, .int .i64 cf.reds, .int .i64 cf.wrk, .int .i64 cf.att, .int .i64 cf.bck, .int .i64 cf.lease, .int .i64 cf.late, .int .i64 cf.cap] 36 (0, 0)) ∧ w3.cell? ⟨Wb, 13, none⟩ = some (.int .i64 0) ∧ w3.cell? ⟨Wb, 14, none⟩ = some (.int .i64 0) ∧ w3.cell? ⟨Wb, 15, none⟩ = some (.int .i64 0) ∧ w3.cell? ⟨Wb, 16, none⟩ = some (.int .i64 0) ∧ w3.cell? ⟨Wb, 17, none⟩ = some (.int .i64 0) ∧ w3.cell? ⟨Wb, 18, none⟩ = some (.int .i64 0) ∧ w3.cell? ⟨Wb, 19, none⟩ = some (.int .i64 0) ∧ w3.cell? ⟨Wb, 20, none⟩ = some (.int .i64 0) ∧ w3.cell? ⟨Wb, 11, none⟩ = some (.pointer none) ∧ (∀ j, w3.frozen? ⟨Wb, j, none⟩ = false)) ∧ Hid (PW Wb w cf M R N (.cells #[.int .i64 9, .int .i64 A, .int .i64 B, .int .i64 C, .string s, .string t] 45) (((((((((w3.setCell ⟨Wb, 13, none⟩ (.int .i64 cf.maps)).setCell ⟨Wb, 14, none⟩ (.int .i64 cf.reds)).setCell ⟨Wb, 15, none⟩ (.int .i64 cf.wrk)).setCell ⟨Wb, 16, none⟩ (.int .i64 cf.att)).setCell ⟨Wb, 17, none⟩ (.int .i64 cf.bck)).setCell ⟨Wb, 18, none⟩ (.int .i64 cf.lease)).setCell ⟨Wb, 19, none⟩ (.int .i64 cf.late)).setCell ⟨Wb, 20, none⟩ (.int .i64 cf.cap)).setCell ⟨Wb, 11, none⟩ (.pointer (some ⟨Tb, 0, none⟩))))) := U.pre ok hM hR N A B C s t
  have hpk : Hid (∀ W, Calls Tryz.prog 19 #[.int .i64 A, .int .i64 6] W fun e w' => e = .returned (.int .i64 4) ∧ w' = W) := fun W => by
    have := pick6 A W hA1 hA2
    rw [hA] at this
    exact this
  have HS : Hid (SL Wb w a) := S
  clear S U a0 ok hM hR
  go_enter Tryz.func25, Tryz.ntmps25
  go_upto_if 22 with fail
  go_cut [] from 18 (fun wc => Hid (PW Wb w cf M R N (.cells #[.int .i64 9, .int .i64 A, .int .i64 B, .int .i64 C, .string s, .string t] 45) wc))
  case first =>
    go_wp2_with (first | (go_at_call 35; refine hC.out.mono ?_; rintro e w1 ⟨rfl, HN⟩) | (go_at_call 12; refine HN.mono ?_; rintro e w3 ⟨Tb, rfl, ⟨q1, k13, k14, k15, k16, k17, k18, k19, k20, k11, kf⟩, hfin⟩; have g0 : w3.cell? ⟨w1.heap.size, 0, none⟩ = some (.int .i64 cf.maps) := (by simp [World.cell?, q1]); have g1 : w3.cell? ⟨w1.heap.size, 1, none⟩ = some (.int .i64 cf.reds) := (by simp [World.cell?, q1]); have g2 : w3.cell? ⟨w1.heap.size, 2, none⟩ = some (.int .i64 cf.wrk) := (by simp [World.cell?, q1]); have g3 : w3.cell? ⟨w1.heap.size, 3, none⟩ = some (.int .i64 cf.att) := (by simp [World.cell?, q1]); have g4 : w3.cell? ⟨w1.heap.size, 4, none⟩ = some (.int .i64 cf.bck) := (by simp [World.cell?, q1]); have g5 : w3.cell? ⟨w1.heap.size, 5, none⟩ = some (.int .i64 cf.lease) := (by simp [World.cell?, q1]); have g6 : w3.cell? ⟨w1.heap.size, 6, none⟩ = some (.int .i64 cf.late) := (by simp [World.cell?, q1]); have g7 : w3.cell? ⟨w1.heap.size, 7, none⟩ = some (.int .i64 cf.cap) := (by simp [World.cell?, q1])))
    go_meet
    case rel => exact hfin
  case rest =>
    obtain ⟨Tb, tv, vs, L, lb, lf, hop⟩ := hcut.out
    have S1 := HS.out.low lb
    obtain ⟨hM, hR, b1, b2, b3, b4, b5, b6⟩ := L.bounds (Nat.le_of_lt hN)
    have c11 := L.t
    have cA : wc.cell? ⟨w.heap.size, 1, none⟩ = some (.int .i64 A) := by simp [World.cell?, hop]
    have cB : wc.cell? ⟨w.heap.size, 2, none⟩ = some (.int .i64 B) := by simp [World.cell?, hop]
    have cC : wc.cell? ⟨w.heap.size, 3, none⟩ = some (.int .i64 C) := by simp [World.cell?, hop]
    have HT : Hid (Calls Tryz.prog 44 #[.pointer (some ⟨Tb, 0, none⟩)] wc fun e w1 => e = .returned (.tuple #[]) ∧ w1.cell? ⟨Wb, 70, none⟩ = some (.int .i64 0) ∧ w1.frozen? ⟨Wb, 70, none⟩ = false ∧ (w1.setCell ⟨Wb, 70, none⟩ (.int .i64 1)).cell? ⟨Wb, 21, none⟩ = some (.slice none 0 0) ∧ Hid (Fin Wb cf M R Tb N w (w1.setCell ⟨Wb, 70, none⟩ (.int .i64 1)))) := by
      refine (tTick L.T L.WT (by simp [bk0]; omega) b4 b6).mono ?_
      rintro e w1 ⟨rfl, hS⟩
      have C1 := CI.of L hS (Below.refl _ _) lb lf
      obtain ⟨cs, hcs, _⟩ := C1.blk
      have C2 := C1.own 70 (by omega) (by omega) (.int .i64 1) (fun p t hp ht => .inl ⟨by omega, rfl⟩) (now' := 1) (.inr ⟨rfl, rfl⟩)
      have HRel : Rel cf M R (ticked cf (bk0 M) (bk0 M).ts.length) ([].map (overLate cf.lease ((bk0 M).now + 1))) (fun _ _ => false) := L.rel.tick (fun x hx => late_is b6 x hx)
      exact ⟨rfl, C1.K.cn, by simp [World.frozen?, hcs], C2.K.cl, C2.fin HRel (by rw [ticked_now]; rfl) L.ok L.hM L.hR L.WT (by rw [ticked_all]; show 0 ≤ N + 1; omega) (by rw [ticked_now]; show 0 + 1 ≤ N + 1; omega)⟩
    clear L lb lf hop S1 b3 b4 hcut HS hC
    go_wp2_with (first | (go_at_call 19; refine (hpk.out _).mono ?_; rintro e w' ⟨rfl, rfl⟩) | (go_at_call 44; refine HT.out.mono ?_; rintro e w1 ⟨rfl, c70, f70, c21, HFin⟩))
    go_loopw [16] (fun iv wr => iv = .int .i64 0 ∧ wr.cell? ⟨Wb, 21, none⟩ = some (.slice none 0 0) ∧ Hid (Fin Wb cf M R Tb N w wr)) (fun _ _ => 0)
    case atStart => exact ⟨rfl, c21, HFin⟩
    case round =>
      obtain ⟨rfl, d21, hfin⟩ := hrel
      go_wp2
      go_ret
      exact ⟨rfl, Tb, hfin.out⟩
end Go.Proofs.YtibofakbhgmhiabGreatDoor

namespace Go.Proofs.YtibofakbhgmhiabGreatDoor
open Go.RowKit Go.MuLone

set_option maxHeartbeats 4000000 in
set_option maxRecDepth 100000 in
theorem first_status {Wb : Nat} {w : World} {cf : Cf} {cs : Array Value} (U : NM Wb w cf cs) (ok : cf.ok) {M R : Nat} (hM : cf.maps = (M : Int)) (hR : cf.reds = (R : Int)) {N : Nat} (a : Nat → Addr) (S : SL Wb w a) (hN : N < 1048576) (A B C : Int) (s t : ByteArray) (hA1 : -9223372036854775808 ≤ A) (hA2 : A ≤ 9223372036854775807) (hA : pk6 A = 5) :
    Calls Tryz.prog 25 #[.pointer (some ⟨Wb, 0, none⟩), .agg #[.int .i64 9, .int .i64 A, .int .i64 B, .int .i64 C, .string s, .string t]] w fun e w' => e = .returned (.bool true) ∧ ∃ Tb, Fin Wb cf M R Tb N w w' := by
  have hWl := lt_of_block U.blk
  have a0 : (w.alloc (.cells #[.int .i64 9, .int .i64 A, .int .i64 B, .int .i64 C, .string s, .string t] 45)).heap[Wb]? = some (.cells cs 43 (0, 0)) := by rw [Below.heap_alloc w _ Wb hWl]; exact U.blk
  have c12 : (w.alloc (.cells #[.int .i64 9, .int .i64 A, .int .i64 B, .int .i64 C, .string s, .string t] 45)).cell? ⟨Wb, 12, none⟩ = some (.bool false) := (cell_of a0).trans U.c12
  have f12 : (w.alloc (.cells #[.int .i64 9, .int .i64 A, .int .i64 B, .int .i64 C, .string s, .string t] 45)).frozen? ⟨Wb, 12, none⟩ = false := frozen_put a0
  have hC : Hid (Calls Tryz.prog 35 #[.pointer (some ⟨Wb, 0, none⟩)] ((w.setCell ⟨Wb, 12, none⟩ (.bool true)).alloc (.cells #[.int .i64 9, .int .i64 A, .int .i64 B, .int .i64 C, .string s, .string t] 45)) fun e w1 => e = .returned (.agg #[.int .i64 cf.maps, .int .i64 cf.reds, .int .i64 cf.wrk, .int .i64 cf.att, .int .i64 cf.bck, .int .i64 cf.lease, .int .i64 cf.late, .int .i64 cf.cap]) ∧
      Calls Tryz.prog 12 #[.agg #[.int .i64 cf.maps, .int .i64 cf.reds, .int .i64 cf.wrk, .int .i64 cf.att, .int .i64 cf.bck, .int .i64 cf.lease, .int .i64 cf.late, .int .i64 cf.cap]] (w1.alloc (.cells #[.int .i64 cf.maps, .int .i64 cf.reds, .int .i64 cf.wrk, .int .i64 cf.att, .int .i64 cf.bck, .int .i64 cf.lease, .int .i64 cf.late, .int .i64 cf.cap] 36)) fun e w3 => ∃ Tb, e = .returned (.tuple #[.pointer (some ⟨Tb, 0, none⟩), .int .i64 0]) ∧ (w3.heap[w1.heap.size]? = some (.cells #[.int .i64 cf.maps, .int .i64 cf.reds, .int .i64 cf.wrk, .int .i64 cf.att, .int .i64 cf.bck, .int .i64 cf.lease, .int .i64 cf.late, .int .i64 cf.cap] 36 (0, 0)) ∧ w3.cell? ⟨Wb, 13, none⟩ = some (.int .i64 0) ∧ w3.cell? ⟨Wb, 14, none⟩ = some (.int .i64 0) ∧ w3.cell? ⟨Wb, 15, none⟩ = some (.int .i64 0) ∧ w3.cell? ⟨Wb, 16, none⟩ = some (.int .i64 0) ∧ w3.cell? ⟨Wb, 17, none⟩ = some (.int .i64 0) ∧ w3.cell? ⟨Wb, 18, none⟩ = some (.int .i64 0) ∧ w3.cell? ⟨Wb, 19, none⟩ = some (.int .i64 0) ∧ w3.cell? ⟨Wb, 20, none⟩ = some (.int .i64 0) ∧ w3.cell? ⟨Wb, 11, none⟩ = some (.pointer none) ∧ (∀ j, w3.frozen? ⟨Wb, j, none⟩ = false)) ∧ Hid (PW Wb w cf M R N (.cells #[.int .i64 9, .int .i64 A, .int .i64 B, .int .i64 C, .string s, .string t] 45) (((((((((w3.setCell ⟨Wb, 13, none⟩ (.int .i64 cf.maps)).setCell ⟨Wb, 14, none⟩ (.int .i64 cf.reds)).setCell ⟨Wb, 15, none⟩ (.int .i64 cf.wrk)).setCell ⟨Wb, 16, none⟩ (.int .i64 cf.att)).setCell ⟨Wb, 17, none⟩ (.int .i64 cf.bck)).setCell ⟨Wb, 18, none⟩ (.int .i64 cf.lease)).setCell ⟨Wb, 19, none⟩ (.int .i64 cf.late)).setCell ⟨Wb, 20, none⟩ (.int .i64 cf.cap)).setCell ⟨Wb, 11, none⟩ (.pointer (some ⟨Tb, 0, none⟩))))) := U.pre ok hM hR N A B C s t
  have hpk : Hid (∀ W, Calls Tryz.prog 19 #[.int .i64 A, .int .i64 6] W fun e w' => e = .returned (.int .i64 5) ∧ w' = W) := fun W => by
    have := pick6 A W hA1 hA2
    rw [hA] at this
    exact this
  have HS : Hid (SL Wb w a) := S
  clear S U a0 ok hM hR
  go_enter Tryz.func25, Tryz.ntmps25
  go_upto_if 22 with fail
  go_cut [] from 18 (fun wc => Hid (PW Wb w cf M R N (.cells #[.int .i64 9, .int .i64 A, .int .i64 B, .int .i64 C, .string s, .string t] 45) wc))
  case first =>
    go_wp2_with (first | (go_at_call 35; refine hC.out.mono ?_; rintro e w1 ⟨rfl, HN⟩) | (go_at_call 12; refine HN.mono ?_; rintro e w3 ⟨Tb, rfl, ⟨q1, k13, k14, k15, k16, k17, k18, k19, k20, k11, kf⟩, hfin⟩; have g0 : w3.cell? ⟨w1.heap.size, 0, none⟩ = some (.int .i64 cf.maps) := (by simp [World.cell?, q1]); have g1 : w3.cell? ⟨w1.heap.size, 1, none⟩ = some (.int .i64 cf.reds) := (by simp [World.cell?, q1]); have g2 : w3.cell? ⟨w1.heap.size, 2, none⟩ = some (.int .i64 cf.wrk) := (by simp [World.cell?, q1]); have g3 : w3.cell? ⟨w1.heap.size, 3, none⟩ = some (.int .i64 cf.att) := (by simp [World.cell?, q1]); have g4 : w3.cell? ⟨w1.heap.size, 4, none⟩ = some (.int .i64 cf.bck) := (by simp [World.cell?, q1]); have g5 : w3.cell? ⟨w1.heap.size, 5, none⟩ = some (.int .i64 cf.lease) := (by simp [World.cell?, q1]); have g6 : w3.cell? ⟨w1.heap.size, 6, none⟩ = some (.int .i64 cf.late) := (by simp [World.cell?, q1]); have g7 : w3.cell? ⟨w1.heap.size, 7, none⟩ = some (.int .i64 cf.cap) := (by simp [World.cell?, q1])))
    go_meet
    case rel => exact hfin
  case rest =>
    obtain ⟨Tb, tv, vs, L, lb, lf, hop⟩ := hcut.out
    have S1 := HS.out.low lb
    obtain ⟨hM, hR, b1, b2, b3, b4, b5, b6⟩ := L.bounds (Nat.le_of_lt hN)
    have c11 := L.t
    have cA : wc.cell? ⟨w.heap.size, 1, none⟩ = some (.int .i64 A) := by simp [World.cell?, hop]
    have cB : wc.cell? ⟨w.heap.size, 2, none⟩ = some (.int .i64 B) := by simp [World.cell?, hop]
    have cC : wc.cell? ⟨w.heap.size, 3, none⟩ = some (.int .i64 C) := by simp [World.cell?, hop]
    have HF : Hid (Calls Tryz.prog 46 #[.pointer (some ⟨Wb, 0, none⟩)] wc fun e w' => e = .returned (.bool true) ∧ Hid (Fin Wb cf M R Tb N w w')) := by
      refine (wStatus L (Nat.le_of_lt hN)).mono ?_
      rintro e w' ⟨rfl, f1, f2, f3⟩
      exact ⟨rfl, f1, lb.trans f2, lf.trans f3⟩
    clear L lb lf hop S1 b3 b4 hcut HS hC
    go_wp2_with (first | (go_at_call 19; refine (hpk.out _).mono ?_; rintro e w' ⟨rfl, rfl⟩) | (go_at_call 46; refine HF.out.mono ?_; rintro e w' ⟨rfl, hfin⟩))
    go_ret
    exact ⟨rfl, Tb, hfin.out⟩
end Go.Proofs.YtibofakbhgmhiabGreatDoor

namespace Go.Proofs.YtibofakbhgmhiabGreatDoor
open Go.RowKit Go.MuLone

set_option maxHeartbeats 4000000 in
set_option maxRecDepth 100000 in
theorem first_request {Wb : Nat} {w : World} {cf : Cf} {cs : Array Value} (U : NM Wb w cf cs) (ok : cf.ok) {M R : Nat} (hM : cf.maps = (M : Int)) (hR : cf.reds = (R : Int)) {N : Nat} (a : Nat → Addr) (S : SL Wb w a) (hN : N < 1048576) (A B C : Int) (s t : ByteArray) (hA1 : -9223372036854775808 ≤ A) (hA2 : A ≤ 9223372036854775807) (hA : pk6 A = 0) :
    Calls Tryz.prog 25 #[.pointer (some ⟨Wb, 0, none⟩), .agg #[.int .i64 9, .int .i64 A, .int .i64 B, .int .i64 C, .string s, .string t]] w fun e w' => e = .returned (.bool true) ∧ ∃ Tb, Fin Wb cf M R Tb N w w' := by
  have hWl := lt_of_block U.blk
  have a0 : (w.alloc (.cells #[.int .i64 9, .int .i64 A, .int .i64 B, .int .i64 C, .string s, .string t] 45)).heap[Wb]? = some (.cells cs 43 (0, 0)) := by rw [Below.heap_alloc w _ Wb hWl]; exact U.blk
  have c12 : (w.alloc (.cells #[.int .i64 9, .int .i64 A, .int .i64 B, .int .i64 C, .string s, .string t] 45)).cell? ⟨Wb, 12, none⟩ = some (.bool false) := (cell_of a0).trans U.c12
  have f12 : (w.alloc (.cells #[.int .i64 9, .int .i64 A, .int .i64 B, .int .i64 C, .string s, .string t] 45)).frozen? ⟨Wb, 12, none⟩ = false := frozen_put a0
  have hC : Hid (Calls Tryz.prog 35 #[.pointer (some ⟨Wb, 0, none⟩)] ((w.setCell ⟨Wb, 12, none⟩ (.bool true)).alloc (.cells #[.int .i64 9, .int .i64 A, .int .i64 B, .int .i64 C, .string s, .string t] 45)) fun e w1 => e = .returned (.agg #[.int .i64 cf.maps, .int .i64 cf.reds, .int .i64 cf.wrk, .int .i64 cf.att, .int .i64 cf.bck, .int .i64 cf.lease, .int .i64 cf.late, .int .i64 cf.cap]) ∧
      Calls Tryz.prog 12 #[.agg #[.int .i64 cf.maps, .int .i64 cf.reds, .int .i64 cf.wrk, .int .i64 cf.att, .int .i64 cf.bck, .int .i64 cf.lease, .int .i64 cf.late, .int .i64 cf.cap]] (w1.alloc (.cells #[.int .i64 cf.maps, .int .i64 cf.reds, .int .i64 cf.wrk, .int .i64 cf.att, .int .i64 cf.bck, .int .i64 cf.lease, .int .i64 cf.late, .int .i64 cf.cap] 36)) fun e w3 => ∃ Tb, e = .returned (.tuple #[.pointer (some ⟨Tb, 0, none⟩), .int .i64 0]) ∧ (w3.heap[w1.heap.size]? = some (.cells #[.int .i64 cf.maps, .int .i64 cf.reds, .int .i64 cf.wrk, .int .i64 cf.att, .int .i64 cf.bck, .int .i64 cf.lease, .int .i64 cf.late, .int .i64 cf.cap] 36 (0, 0)) ∧ w3.cell? ⟨Wb, 13, none⟩ = some (.int .i64 0) ∧ w3.cell? ⟨Wb, 14, none⟩ = some (.int .i64 0) ∧ w3.cell? ⟨Wb, 15, none⟩ = some (.int .i64 0) ∧ w3.cell? ⟨Wb, 16, none⟩ = some (.int .i64 0) ∧ w3.cell? ⟨Wb, 17, none⟩ = some (.int .i64 0) ∧ w3.cell? ⟨Wb, 18, none⟩ = some (.int .i64 0) ∧ w3.cell? ⟨Wb, 19, none⟩ = some (.int .i64 0) ∧ w3.cell? ⟨Wb, 20, none⟩ = some (.int .i64 0) ∧ w3.cell? ⟨Wb, 11, none⟩ = some (.pointer none) ∧ (∀ j, w3.frozen? ⟨Wb, j, none⟩ = false)) ∧ Hid (PW Wb w cf M R N (.cells #[.int .i64 9, .int .i64 A, .int .i64 B, .int .i64 C, .string s, .string t] 45) (((((((((w3.setCell ⟨Wb, 13, none⟩ (.int .i64 cf.maps)).setCell ⟨Wb, 14, none⟩ (.int .i64 cf.reds)).setCell ⟨Wb, 15, none⟩ (.int .i64 cf.wrk)).setCell ⟨Wb, 16, none⟩ (.int .i64 cf.att)).setCell ⟨Wb, 17, none⟩ (.int .i64 cf.bck)).setCell ⟨Wb, 18, none⟩ (.int .i64 cf.lease)).setCell ⟨Wb, 19, none⟩ (.int .i64 cf.late)).setCell ⟨Wb, 20, none⟩ (.int .i64 cf.cap)).setCell ⟨Wb, 11, none⟩ (.pointer (some ⟨Tb, 0, none⟩))))) := U.pre ok hM hR N A B C s t
  have hpk : Hid (∀ W, Calls Tryz.prog 19 #[.int .i64 A, .int .i64 6] W fun e w' => e = .returned (.int .i64 0) ∧ w' = W) := fun W => by
    have := pick6 A W hA1 hA2
    rw [hA] at this
    exact this
  have HS : Hid (SL Wb w a) := S
  clear S U a0 ok hM hR
  go_enter Tryz.func25, Tryz.ntmps25
  go_upto_if 22 with fail
  go_cut [] from 18 (fun wc => Hid (PW Wb w cf M R N (.cells #[.int .i64 9, .int .i64 A, .int .i64 B, .int .i64 C, .string s, .string t] 45) wc))
  case first =>
    go_wp2_with (first | (go_at_call 35; refine hC.out.mono ?_; rintro e w1 ⟨rfl, HN⟩) | (go_at_call 12; refine HN.mono ?_; rintro e w3 ⟨Tb, rfl, ⟨q1, k13, k14, k15, k16, k17, k18, k19, k20, k11, kf⟩, hfin⟩; have g0 : w3.cell? ⟨w1.heap.size, 0, none⟩ = some (.int .i64 cf.maps) := (by simp [World.cell?, q1]); have g1 : w3.cell? ⟨w1.heap.size, 1, none⟩ = some (.int .i64 cf.reds) := (by simp [World.cell?, q1]); have g2 : w3.cell? ⟨w1.heap.size, 2, none⟩ = some (.int .i64 cf.wrk) := (by simp [World.cell?, q1]); have g3 : w3.cell? ⟨w1.heap.size, 3, none⟩ = some (.int .i64 cf.att) := (by simp [World.cell?, q1]); have g4 : w3.cell? ⟨w1.heap.size, 4, none⟩ = some (.int .i64 cf.bck) := (by simp [World.cell?, q1]); have g5 : w3.cell? ⟨w1.heap.size, 5, none⟩ = some (.int .i64 cf.lease) := (by simp [World.cell?, q1]); have g6 : w3.cell? ⟨w1.heap.size, 6, none⟩ = some (.int .i64 cf.late) := (by simp [World.cell?, q1]); have g7 : w3.cell? ⟨w1.heap.size, 7, none⟩ = some (.int .i64 cf.cap) := (by simp [World.cell?, q1])))
    go_meet
    case rel => exact hfin
  case rest =>
    obtain ⟨Tb, tv, vs, L, lb, lf, hop⟩ := hcut.out
    have S1 := HS.out.low lb
    obtain ⟨hM, hR, b1, b2, b3, b4, b5, b6⟩ := L.bounds (Nat.le_of_lt hN)
    have c11 := L.t
    have cA : wc.cell? ⟨w.heap.size, 1, none⟩ = some (.int .i64 A) := by simp [World.cell?, hop]
    have cB : wc.cell? ⟨w.heap.size, 2, none⟩ = some (.int .i64 B) := by simp [World.cell?, hop]
    have cC : wc.cell? ⟨w.heap.size, 3, none⟩ = some (.int .i64 C) := by simp [World.cell?, hop]
    have HF : Hid (Calls Tryz.prog 40 #[.pointer (some ⟨Wb, 0, none⟩)] wc fun e w' => e = .returned (.bool true) ∧ Hid (Fin Wb cf M R Tb N w w')) := by
      refine (wReq L a S1 (Nat.le_of_lt hN)).mono ?_
      rintro e w' ⟨rfl, f1, f2, f3⟩
      exact ⟨rfl, f1, lb.trans f2, lf.trans f3⟩
    clear L lb lf hop S1 b3 b4 hcut HS hC
    go_wp2_with (first | (go_at_call 19; refine (hpk.out _).mono ?_; rintro e w' ⟨rfl, rfl⟩) | (go_at_call 40; refine HF.out.mono ?_; rintro e w' ⟨rfl, hfin⟩))
    go_ret
    exact ⟨rfl, Tb, hfin.out⟩
end Go.Proofs.YtibofakbhgmhiabGreatDoor
