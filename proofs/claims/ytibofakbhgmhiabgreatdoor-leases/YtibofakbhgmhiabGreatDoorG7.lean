import Derived.Test.YtibofakbhgmhiabGreatDoorG5
import Derived.Test.YtibofakbhgmhiabGreatDoorG6
import Derived.Test.YtibofakbhgmhiabGreatDoorG0
import Derived.Test.YtibofakbhgmhiabGreatDoorSml
import Derived.Test.YtibofakbhgmhiabGreatDoorG9
import Derived.Lib.LaidTab
import Derived.Lay
import Derived.Test.YtibofakbhgmhiabGreatDoorG4
import Derived.Test.YtibofakbhgmhiabGreatDoorOpn
import Derived.ProofKit

namespace Go.Proofs.YtibofakbhgmhiabGreatDoor
open Go.RowKit Go.MuLone

theorem callFirst {Wb : Nat} {w : World} {cf : Cf} {cs : Array Value} (U : NM Wb w cf cs) (ok : cf.ok) {M R : Nat} (hM : cf.maps = (M : Int)) (hR : cf.reds = (R : Int)) {N : Nat} (a : Nat → Addr) (S : SL Wb w a) (hN : N < 1048576) (A B C : Int) (s t : ByteArray) (hA1 : -9223372036854775808 ≤ A) (hA2 : A ≤ 9223372036854775807) :
    Calls Tryz.prog 25 #[.pointer (some ⟨Wb, 0, none⟩), .agg #[.int .i64 9, .int .i64 A, .int .i64 B, .int .i64 C, .string s, .string t]] w fun e w' => e = .returned (.bool true) ∧ ∃ Tb, Fin Wb cf M R Tb N w w' := by
  have hlt := pk6_lt A
  by_cases h0 : pk6 A = 0
  · exact first_request U ok hM hR a S hN A B C s t hA1 hA2 h0
  by_cases h1 : pk6 A = 1
  · by_cases hC : 0 ≤ C ∧ C ≤ 100
    · exact first_beat U ok hM hR a S hN A B C s t hA1 hA2 h1 hC
    · exact first_beatno U ok hM hR a S hN A B C s t hA1 hA2 h1 hC
  by_cases h2 : pk6 A = 2
  · exact first_commit U ok hM hR a S hN A B C s t hA1 hA2 h2
  by_cases h3 : pk6 A = 3
  · exact first_fail U ok hM hR a S hN A B C s t hA1 hA2 h3
  by_cases h4 : pk6 A = 4
  · exact first_tick U ok hM hR a S hN A B C s t hA1 hA2 h4
  · exact first_status U ok hM hR a S hN A B C s t hA1 hA2 (by omega)

/-- how the statement's world stands: no table yet; none for good; one -/
def LSt (Wb : Nat) (w : World) (N : Nat) : Prop :=
  (∃ cf cs, NM Wb w cf cs) ∨ (w.cell? ⟨Wb, 11, none⟩ = some (.pointer none) ∧ w.cell? ⟨Wb, 12, none⟩ = some (.bool true)) ∨ (∃ cf M R Tb, LH Wb cf M R Tb N w)
theorem NM.below {Wb : Nat} {w w' : World} {cf : Cf} {cs : Array Value} (U : NM Wb w cf cs) (hb : Below w.heap.size w w') : NM Wb w' cf cs :=
  ⟨by rw [hb.block _ (lt_of_block U.blk)]; exact U.blk, U.size, U.n0, U.n1, U.n2, U.n3, U.n4, U.n5, U.n6, U.n7, U.c11, U.c12, U.z, U.c21, U.cd, U.cn⟩
theorem LSt.below {Wb : Nat} {w w' : World} {N : Nat} (T : LSt Wb w N) (hb : Below w.heap.size w w') : LSt Wb w' N := by
  rcases T with ⟨cf, cs, U⟩ | ⟨h1, h2⟩ | ⟨cf, M, R, Tb, bk, l, dn, lv, tv, vs, L⟩
  · exact .inl ⟨cf, cs, U.below hb⟩
  · exact .inr (.inl ⟨(hb.cell (p := ⟨Wb, 11, none⟩) (hp_lt h1)).trans h1, (hb.cell (p := ⟨Wb, 12, none⟩) (hp_lt h2)).trans h2⟩)
  · exact .inr (.inr ⟨cf, M, R, Tb, bk, l, dn, lv, tv, vs, L.below hb⟩)
theorem LSt.up {Wb : Nat} {w : World} {N : Nat} (T : LSt Wb w N) : LSt Wb w (N + 1) := by
  rcases T with h | h | ⟨cf, M, R, Tb, bk, l, dn, lv, tv, vs, L⟩
  · exact .inl h
  · exact .inr (.inl h)
  · exact .inr (.inr ⟨cf, M, R, Tb, bk, l, dn, lv, tv, vs, L.up⟩)
theorem LSt.fr {J : Nat → Prop} {Wb : Nat} {w w' : World} {N : Nat} (T : LSt Wb w N) (hf : Fr J Wb w w') (hJ : ∀ j, J j → 8 ≤ j ∧ j < 11) {rr : List (List Int)} {N' : Nat} (hK : KHas Wb w' rr N') : LSt Wb w' (N + 1) := by
  have hc : ∀ j, (j < 8 ∨ 11 ≤ j) → w'.cell? ⟨Wb, j, none⟩ = w.cell? ⟨Wb, j, none⟩ := fun j hj => hf.cell j (fun h => by have := hJ j h; omega)
  rcases T with ⟨cf, cs, U⟩ | ⟨h1, h2⟩ | ⟨cf, M, R, Tb, bk, l, dn, lv, tv, vs, L⟩
  · obtain ⟨cs', ev, pv, rv, ne, np, xe, xp, xr, K'⟩ := hK
    have he : ∀ j, (j < 8 ∨ 11 ≤ j) → cs'[j]? = cs[j]? := fun j hj => by rw [← cell_of (j := j) K'.blk, hc j hj, U.cell]
    exact .inl ⟨cf, cs', K'.blk, K'.size, (he _ (by omega)).trans U.n0, (he _ (by omega)).trans U.n1, (he _ (by omega)).trans U.n2, (he _ (by omega)).trans U.n3, (he _ (by omega)).trans U.n4, (he _ (by omega)).trans U.n5, (he _ (by omega)).trans U.n6, (he _ (by omega)).trans U.n7, (he _ (by omega)).trans U.c11, (he _ (by omega)).trans U.c12, fun j h1 h2 => (he _ (by omega)).trans (U.z j h1 h2), (he _ (by omega)).trans U.c21, fun j h1 h2 => (he _ (by omega)).trans (U.cd j h1 h2), (he _ (by omega)).trans U.cn⟩
  · exact .inr (.inl ⟨(hc 11 (by omega)).trans h1, (hc 12 (by omega)).trans h2⟩)
  · exact .inr (.inr ⟨cf, M, R, Tb, bk, l, dn, lv, tv, vs, L.fr hf (fun j hj => (hJ j hj).2) hK⟩)
theorem LSt.num {p : Nat} {Wb : Nat} {w w' : World} {N : Nat} (T : LSt Wb w N) (hp : p < 8) (hf : Fr (· = p) Wb w w') {B : Int} (hB : w'.cell? ⟨Wb, p, none⟩ = some (.int .i64 B)) {rr : List (List Int)} {N' : Nat} (hK : KHas Wb w' rr N') : LSt Wb w' (N + 1) := by
  have hc : ∀ j, j ≠ p → w'.cell? ⟨Wb, j, none⟩ = w.cell? ⟨Wb, j, none⟩ := fun j hj => hf.cell j hj
  rcases T with ⟨cf, cs, U⟩ | ⟨h1, h2⟩ | ⟨cf, M, R, Tb, bk, l, dn, lv, tv, vs, L⟩
  · obtain ⟨cs', ev, pv, rv, ne, np, xe, xp, xr, K'⟩ := hK
    have he : ∀ j, j ≠ p → cs'[j]? = cs[j]? := fun j hj => by rw [← cell_of (j := j) K'.blk, hc j hj, U.cell]
    have hq : cs'[p]? = some (.int .i64 B) := by rw [← cell_of (j := p) K'.blk]; exact hB
    have pick : ∀ (j : Nat) (x : Int), cs[j]? = some (.int .i64 x) → cs'[j]? = some (.int .i64 (if j = p then B else x)) := fun j x hx => by
      by_cases e : j = p
      · subst e; rw [if_pos rfl]; exact hq
      · rw [if_neg e]; exact (he j e).trans hx
    exact .inl ⟨⟨_, _, _, _, _, _, _, _⟩, cs', K'.blk, K'.size, pick 0 _ U.n0, pick 1 _ U.n1, pick 2 _ U.n2, pick 3 _ U.n3, pick 4 _ U.n4, pick 5 _ U.n5, pick 6 _ U.n6, pick 7 _ U.n7, (he _ (by omega)).trans U.c11, (he _ (by omega)).trans U.c12, fun j h1 h2 => (he _ (by omega)).trans (U.z j h1 h2), (he _ (by omega)).trans U.c21, fun j h1 h2 => (he _ (by omega)).trans (U.cd j h1 h2), (he _ (by omega)).trans U.cn⟩
  · exact .inr (.inl ⟨(hc 11 (by omega)).trans h1, (hc 12 (by omega)).trans h2⟩)
  · exact .inr (.inr ⟨cf, M, R, Tb, bk, l, dn, lv, tv, vs, L.fr hf (fun j hj => by omega) hK⟩)

/-- a call of the table, whatever stands -/
theorem callAny {Wb : Nat} {w : World} {N : Nat} (T : LSt Wb w N) (a : Nat → Addr) (S : SL Wb w a) (hN : N < 1048576) (hW : Wb ≤ w.heap.size) (A B C : Int) (s t : ByteArray) (hA1 : -9223372036854775808 ≤ A) (hA2 : A ≤ 9223372036854775807) :
    Calls Tryz.prog 25 #[.pointer (some ⟨Wb, 0, none⟩), .agg #[.int .i64 9, .int .i64 A, .int .i64 B, .int .i64 C, .string s, .string t]] w fun e w' => e = .returned (.bool true) ∧ LSt Wb w' (N + 1) ∧ Below Wb w w' ∧ Fc Wb w w' := by
  rcases T with ⟨cf, cs, U⟩ | ⟨h1, h2⟩ | ⟨cf, M, R, Tb, bk, l, dn, lv, tv, vs, L⟩
  · by_cases ok : cf.ok
    · have o1 := ok.1
      have o2 := ok.2.1
      obtain ⟨M, hM⟩ : ∃ M : Nat, cf.maps = (M : Int) := ⟨cf.maps.toNat, by omega⟩
      obtain ⟨R, hR⟩ : ∃ R : Nat, cf.reds = (R : Int) := ⟨cf.reds.toNat, by omega⟩
      refine (callFirst U ok hM hR a S hN A B C s t hA1 hA2).mono ?_
      rintro e w' ⟨rfl, Tb, f1, f2, f3⟩
      exact ⟨rfl, .inr (.inr ⟨cf, M, R, Tb, f1⟩), f2, f3⟩
    · refine (callFirstNo U ok a S A B C s t).mono ?_
      rintro e w' ⟨rfl, h, f2, f3⟩
      exact ⟨rfl, .inr (.inl h), f2, f3⟩
  · refine (callNil Wb w A B C s t h1 h2).mono ?_
    rintro e w' ⟨rfl, hb⟩
    exact ⟨rfl, .inr (.inl ⟨(hb.cell (p := ⟨Wb, 11, none⟩) (hp_lt h1)).trans h1, (hb.cell (p := ⟨Wb, 12, none⟩) (hp_lt h2)).trans h2⟩), hb.mono hW, Fc.of_below hb⟩
  · refine (callMade L a S hN A B C s t hA1 hA2).mono ?_
    rintro e w' ⟨rfl, f1, f2, f3⟩
    exact ⟨rfl, .inr (.inr ⟨cf, M, R, Tb, f1⟩), f2, f3⟩

theorem KHas.up {Wb : Nat} {w : World} {rr : List (List Int)} {N : Nat} (h : KHas Wb w rr N) : KHas Wb w rr (N + 1) := by
  obtain ⟨cs, ev, pv, rv, ne, np, xe, xp, xr, K⟩ := h
  exact ⟨cs, ev, pv, rv, ne, np, xe, xp, xr, K.blk, K.size, K.e8, K.e9, K.e10, K.oe, K.op, K.or, K.rows, by have := K.le; omega, by have := K.lp; omega, by have := K.lr; omega⟩
theorem KHas.grown {Wb : Nat} {w w' : World} {rr : List (List Int)} {N : Nat} (h : KHas Wb w rr N) (hb : Below w.heap.size w w') : KHas Wb w' rr N := by
  obtain ⟨cs, ev, pv, rv, ne, np, xe, xp, xr, K⟩ := h
  exact ⟨cs, ev, pv, rv, ne, np, xe, xp, xr, K.grown hb⟩

set_option maxHeartbeats 1000000 in
set_option maxRecDepth 100000 in
theorem step_call (Wb : Nat) (A B C : Int) (s t : ByteArray) (w : World) (rr : List (List Int)) (N : Nat) (K : KHas Wb w rr N) (T : LSt Wb w N) (a : Nat → Addr) (S : SL Wb w a) (hN : N < 1048576) (hA1 : -9223372036854775808 ≤ A) (hA2 : A ≤ 9223372036854775807) :
    Calls Tryz.prog 11 #[.pointer (some ⟨Wb, 0, none⟩), opV 9 A B C s t] w fun e w' => e = .returned (.bool true) ∧ KHas Wb w' rr N ∧ LSt Wb w' (N + 1) ∧ Below Wb w w' := by
  have hWl : Wb < w.heap.size := by obtain ⟨cs, ev, pv, rv, ne, np, xe, xp, xr, K⟩ := K; exact K.lt
  have hb0 : Below w.heap.size w (w.alloc (.cells #[.int .i64 9, .int .i64 A, .int .i64 B, .int .i64 C, .string s, .string t] 45)) := (Below.refl _ _).alloc (Nat.le_refl _) _
  have hb1 := hb0.mono (Nat.le_of_lt hWl)
  have HM : Hid (Calls Tryz.prog 25 #[.pointer (some ⟨Wb, 0, none⟩), .agg #[.int .i64 9, .int .i64 A, .int .i64 B, .int .i64 C, .string s, .string t]] (w.alloc (.cells #[.int .i64 9, .int .i64 A, .int .i64 B, .int .i64 C, .string s, .string t] 45)) fun e w' => e = .returned (.bool true) ∧ Hid (KHas Wb w' rr N ∧ LSt Wb w' (N + 1) ∧ Below Wb w w')) := by
    refine (callAny (T.below hb0) a (S.low hb1) hN (by simp; omega) A B C s t hA1 hA2).mono ?_
    rintro e w1 ⟨rfl, T1, f2, f3⟩
    exact ⟨rfl, (K.grown hb0).fc f3, T1, hb1.trans f2⟩
  clear K T S hb1
  go_enter Tryz.func11, Tryz.ntmps11
  go_wp2_with (go_at_call 25; refine HM.out.mono ?_; rintro e w1 ⟨rfl, hfin⟩)
  go_ret
  exact ⟨rfl, hfin.out⟩
end Go.Proofs.YtibofakbhgmhiabGreatDoor

namespace Go.Proofs.YtibofakbhgmhiabGreatDoor
open Go.RowKit Go.MuLone

theorem kzero : Tryz.zeroCells43.size = 71 ∧ Tryz.zeroCells43[8]? = some (.slice none 0 0) ∧ Tryz.zeroCells43[9]? = some (.slice none 0 0) ∧ Tryz.zeroCells43[10]? = some (.slice none 0 0) := ⟨by kernel_rfl, by kernel_rfl, by kernel_rfl, by kernel_rfl⟩
theorem kstart (w : World) (q : Nat) : KHas w.heap.size ((w.drewN q).alloc (.cells Tryz.zeroCells43 43)) [] 0 :=
  ⟨_, _, _, _, 0, 0, [], [], [], alloc_at (w.drewN q) _, kzero.1, kzero.2.1, kzero.2.2.1, kzero.2.2.2, World.ownsRow_nil _ _ _ _, World.ownsRow_nil _ _ _ _, World.ownsRow_nil _ _ _ _, fun _ hi => absurd hi (Nat.not_lt_zero _), Nat.le_refl _, Nat.le_refl _, Nat.le_refl _⟩

theorem kzero2 : (∀ j, j < 8 → Tryz.zeroCells43[j]? = some (.int .i64 0)) ∧ Tryz.zeroCells43[11]? = some (.pointer none) ∧ Tryz.zeroCells43[12]? = some (.bool false) ∧ (∀ j, j < 8 → Tryz.zeroCells43[13 + j]? = some (.int .i64 0)) ∧ Tryz.zeroCells43[21]? = some (.slice none 0 0) ∧ (∀ j, j < 48 → Tryz.zeroCells43[22 + j]? = some (.bool false)) ∧ Tryz.zeroCells43[70]? = some (.int .i64 0) :=
  ⟨(fun j hj => match j, hj with | 0, _ => (by kernel_rfl : Tryz.zeroCells43[0]? = some (.int .i64 0)) | 1, _ => (by kernel_rfl : Tryz.zeroCells43[1]? = some (.int .i64 0)) | 2, _ => (by kernel_rfl : Tryz.zeroCells43[2]? = some (.int .i64 0)) | 3, _ => (by kernel_rfl : Tryz.zeroCells43[3]? = some (.int .i64 0)) | 4, _ => (by kernel_rfl : Tryz.zeroCells43[4]? = some (.int .i64 0)) | 5, _ => (by kernel_rfl : Tryz.zeroCells43[5]? = some (.int .i64 0)) | 6, _ => (by kernel_rfl : Tryz.zeroCells43[6]? = some (.int .i64 0)) | 7, _ => (by kernel_rfl : Tryz.zeroCells43[7]? = some (.int .i64 0)) | n + 8, h => absurd h (by omega)), by kernel_rfl, by kernel_rfl, (fun j hj => match j, hj with | 0, _ => (by kernel_rfl : Tryz.zeroCells43[13]? = some (.int .i64 0)) | 1, _ => (by kernel_rfl : Tryz.zeroCells43[14]? = some (.int .i64 0)) | 2, _ => (by kernel_rfl : Tryz.zeroCells43[15]? = some (.int .i64 0)) | 3, _ => (by kernel_rfl : Tryz.zeroCells43[16]? = some (.int .i64 0)) | 4, _ => (by kernel_rfl : Tryz.zeroCells43[17]? = some (.int .i64 0)) | 5, _ => (by kernel_rfl : Tryz.zeroCells43[18]? = some (.int .i64 0)) | 6, _ => (by kernel_rfl : Tryz.zeroCells43[19]? = some (.int .i64 0)) | 7, _ => (by kernel_rfl : Tryz.zeroCells43[20]? = some (.int .i64 0)) | n + 8, h => absurd h (by omega)), by kernel_rfl, (fun j hj => match j, hj with | 0, _ => (by kernel_rfl : Tryz.zeroCells43[22]? = some (.bool false)) | 1, _ => (by kernel_rfl : Tryz.zeroCells43[23]? = some (.bool false)) | 2, _ => (by kernel_rfl : Tryz.zeroCells43[24]? = some (.bool false)) | 3, _ => (by kernel_rfl : Tryz.zeroCells43[25]? = some (.bool false)) | 4, _ => (by kernel_rfl : Tryz.zeroCells43[26]? = some (.bool false)) | 5, _ => (by kernel_rfl : Tryz.zeroCells43[27]? = some (.bool false)) | 6, _ => (by kernel_rfl : Tryz.zeroCells43[28]? = some (.bool false)) | 7, _ => (by kernel_rfl : Tryz.zeroCells43[29]? = some (.bool false)) | 8, _ => (by kernel_rfl : Tryz.zeroCells43[30]? = some (.bool false)) | 9, _ => (by kernel_rfl : Tryz.zeroCells43[31]? = some (.bool false)) | 10, _ => (by kernel_rfl : Tryz.zeroCells43[32]? = some (.bool false)) | 11, _ => (by kernel_rfl : Tryz.zeroCells43[33]? = some (.bool false)) | 12, _ => (by kernel_rfl : Tryz.zeroCells43[34]? = some (.bool false)) | 13, _ => (by kernel_rfl : Tryz.zeroCells43[35]? = some (.bool false)) | 14, _ => (by kernel_rfl : Tryz.zeroCells43[36]? = some (.bool false)) | 15, _ => (by kernel_rfl : Tryz.zeroCells43[37]? = some (.bool false)) | 16, _ => (by kernel_rfl : Tryz.zeroCells43[38]? = some (.bool false)) | 17, _ => (by kernel_rfl : Tryz.zeroCells43[39]? = some (.bool false)) | 18, _ => (by kernel_rfl : Tryz.zeroCells43[40]? = some (.bool false)) | 19, _ => (by kernel_rfl : Tryz.zeroCells43[41]? = some (.bool false)) | 20, _ => (by kernel_rfl : Tryz.zeroCells43[42]? = some (.bool false)) | 21, _ => (by kernel_rfl : Tryz.zeroCells43[43]? = some (.bool false)) | 22, _ => (by kernel_rfl : Tryz.zeroCells43[44]? = some (.bool false)) | 23, _ => (by kernel_rfl : Tryz.zeroCells43[45]? = some (.bool false)) | 24, _ => (by kernel_rfl : Tryz.zeroCells43[46]? = some (.bool false)) | 25, _ => (by kernel_rfl : Tryz.zeroCells43[47]? = some (.bool false)) | 26, _ => (by kernel_rfl : Tryz.zeroCells43[48]? = some (.bool false)) | 27, _ => (by kernel_rfl : Tryz.zeroCells43[49]? = some (.bool false)) | 28, _ => (by kernel_rfl : Tryz.zeroCells43[50]? = some (.bool false)) | 29, _ => (by kernel_rfl : Tryz.zeroCells43[51]? = some (.bool false)) | 30, _ => (by kernel_rfl : Tryz.zeroCells43[52]? = some (.bool false)) | 31, _ => (by kernel_rfl : Tryz.zeroCells43[53]? = some (.bool false)) | 32, _ => (by kernel_rfl : Tryz.zeroCells43[54]? = some (.bool false)) | 33, _ => (by kernel_rfl : Tryz.zeroCells43[55]? = some (.bool false)) | 34, _ => (by kernel_rfl : Tryz.zeroCells43[56]? = some (.bool false)) | 35, _ => (by kernel_rfl : Tryz.zeroCells43[57]? = some (.bool false)) | 36, _ => (by kernel_rfl : Tryz.zeroCells43[58]? = some (.bool false)) | 37, _ => (by kernel_rfl : Tryz.zeroCells43[59]? = some (.bool false)) | 38, _ => (by kernel_rfl : Tryz.zeroCells43[60]? = some (.bool false)) | 39, _ => (by kernel_rfl : Tryz.zeroCells43[61]? = some (.bool false)) | 40, _ => (by kernel_rfl : Tryz.zeroCells43[62]? = some (.bool false)) | 41, _ => (by kernel_rfl : Tryz.zeroCells43[63]? = some (.bool false)) | 42, _ => (by kernel_rfl : Tryz.zeroCells43[64]? = some (.bool false)) | 43, _ => (by kernel_rfl : Tryz.zeroCells43[65]? = some (.bool false)) | 44, _ => (by kernel_rfl : Tryz.zeroCells43[66]? = some (.bool false)) | 45, _ => (by kernel_rfl : Tryz.zeroCells43[67]? = some (.bool false)) | 46, _ => (by kernel_rfl : Tryz.zeroCells43[68]? = some (.bool false)) | 47, _ => (by kernel_rfl : Tryz.zeroCells43[69]? = some (.bool false)) | n + 48, h => absurd h (by omega)), by kernel_rfl⟩
theorem lstart (w : World) (q : Nat) : LSt w.heap.size ((w.drewN q).alloc (.cells Tryz.zeroCells43 43)) 0 := by
  obtain ⟨h0, h1, h2, h3, h4, h5, h6⟩ := kzero2
  exact .inl ⟨⟨0, 0, 0, 0, 0, 0, 0, 0⟩, _, alloc_at (w.drewN q) _, kzero.1, h0 0 (by omega), h0 1 (by omega), h0 2 (by omega), h0 3 (by omega), h0 4 (by omega), h0 5 (by omega), h0 6 (by omega), h0 7 (by omega), h1, h2, fun j a b => by obtain ⟨k, rfl⟩ : ∃ k, j = 13 + k := ⟨j - 13, by omega⟩; exact h3 k (by omega), h4, fun j a b => by obtain ⟨k, rfl⟩ : ∃ k, j = 22 + k := ⟨j - 22, by omega⟩; exact h5 k (by omega), h6⟩

set_option maxHeartbeats 4000000 in
set_option maxRecDepth 100000 in
theorem plays (ops : List OpD) (v : Value) (w : World) (a : Nat → Addr) (S : SL w.heap.size w a) (ho : OpsAt w v ops) (hn : ops.length ≤ 140737488351232)
    (hS : ∀ o ∈ ops, (o.s.size ≤ 140737488351232 ∧ o.t.size ≤ 140737488351232) ∧ -9223372036854775808 ≤ o.A ∧ o.A ≤ 9223372036854775807) :
    Calls Tryz.prog 6 #[v, .int .i64 9] w fun e w' => e = .returned (.bool true) ∧ Below w.heap.size w w' := by
  have hsm := small ops v w ho hn (fun o hm => (hS o hm).1)
  have SH : Hid (SL w.heap.size w a) := S
  clear S
  have HSM : Hid (Calls Tryz.prog 10 #[v] w fun e w' => e = .returned (.bool (decide (tot ops ≤ 1048576))) ∧ ∃ q, w' = w.drewN q) := hsm
  clear hsm
  by_cases htot : tot ops ≤ 1048576
  · have hd : decide (tot ops ≤ 1048576) = true := by simp; omega
    rw [hd] at HSM
    clear hd
    go_enter Tryz.func6, Tryz.ntmps6
    go_wp2_with fail
    refine HSM.out.mono ?_
    rintro e w1 ⟨rfl, q, hw1⟩
    subst hw1
    obtain ⟨ao, co, rfl, hc⟩ := ho
    go_wp2_with fail
    go_loopw [7] (fun i wr => ∃ (k : Nat) (rr : List (List Int)), k ≤ ops.length ∧ i = .int .i64 k ∧ LSt w.heap.size wr k ∧ KHas w.heap.size wr rr k ∧ Below w.heap.size w wr) (fun i _ => ops.length - (intOf i).toNat)
    case atStart => exact ⟨0, [], Nat.zero_le _, rfl, lstart w q, kstart w q, (below_drewN (Below.refl _ _) q).alloc (Nat.le_refl _) _⟩
    case round =>
      obtain ⟨k, rr, hk, rfl, T, hK, hb⟩ := hrel
      have hsz := hb.size
      by_cases hlt : k < ops.length
      · obtain ⟨b, off, rfl, c0, c1, c2, c3, c4, c5⟩ := hc k hlt
        have hbl : b < w.heap.size := World.block_lt_of_cell? w ⟨b, off + k * 6, none⟩ c0
        have d0 := (hb.cell (p := ⟨b, off + k * 6, none⟩) hbl).trans c0
        have d1 := (hb.cell (p := ⟨b, off + k * 6 + 1, none⟩) hbl).trans c1
        have d2 := (hb.cell (p := ⟨b, off + k * 6 + 2, none⟩) hbl).trans c2
        have d3 := (hb.cell (p := ⟨b, off + k * 6 + 3, none⟩) hbl).trans c3
        have d4 := (hb.cell (p := ⟨b, off + k * 6 + 4, none⟩) hbl).trans c4
        have d5 := (hb.cell (p := ⟨b, off + k * 6 + 5, none⟩) hbl).trans c5
        have hz := hS ops[k] (List.getElem_mem _)
        have hge := tot_ge ops
        have htk := tot_take_succ ops k hlt
        have htl := tot_take_le ops (k + 1)
        have hss : ops[k].s.size ≤ 1048576 := by omega
        have HS : Hid (SL w.heap.size wr a) := SH.out.low hb
        have hkN : k ≤ 1048576 := by omega
        have hA1 := hz.2.1
        have hA2 := hz.2.2
        generalize ops[k] = o at *
        obtain ⟨kk, A, B, C, s, t⟩ := o
        simp only at d0 d1 d2 d3 d4 d5 hss hA1 hA2
        have H1 : Hid (LSt w.heap.size wr k) := T
        have HK : Hid (k < 1048576) := by show _ < _; omega
        clear hc c0 c1 c2 c3 c4 c5 hz htk htl hge hS T
        by_cases e1 : kk = 1
        · subst e1
          go_wp2_with fail
          refine (lstep_num w.heap.size A B C s t _ rr k hK hA1 hA2).mono ?_
          rintro e w2 ⟨rfl, hK2, hb2, hf2, hB2⟩
          go_wp2
          go_roundw
          case rel => exact ⟨k + 1, rr, by omega, by go_num, H1.out.num (pk_lt A) hf2 hB2 hK2, hK2.up, hb.trans hb2⟩
          case measure => simp [intOf]; omega
        by_cases e2 : kk = 2
        · subst e2
          go_wp2_with fail
          refine (lstep_event w.heap.size A B C s t _ rr k hK hkN).mono ?_
          rintro e w2 ⟨rfl, hK2, hb2, hf2⟩
          go_wp2
          go_roundw
          case rel => exact ⟨k + 1, rr, by omega, by go_num, H1.out.fr hf2 (fun j hj => by omega) hK2, hK2, hb.trans hb2⟩
          case measure => simp [intOf]; omega
        by_cases e5 : kk = 5
        · subst e5
          go_wp2_with fail
          refine (lstep_pair w.heap.size A B C s t _ rr k hK hkN).mono ?_
          rintro e w2 ⟨rfl, hK2, hb2, hf2⟩
          go_wp2
          go_roundw
          case rel => exact ⟨k + 1, rr, by omega, by go_num, H1.out.fr hf2 (fun j hj => by omega) hK2, hK2, hb.trans hb2⟩
          case measure => simp [intOf]; omega
        by_cases e8 : kk = 8
        · subst e8
          go_wp2
          go_roundw
          case rel => exact ⟨k + 1, rr, by omega, by go_num, H1.out.up, hK.up, hb⟩
          case measure => simp [intOf]; omega
        by_cases e7 : kk = 7
        · subst e7
          go_wp2_with fail
          refine (lstep_run w.heap.size A B C s t _ rr k hK hkN (by omega)).mono ?_
          rintro e w2 ⟨rfl, l, hs1, hs2, hK2, hb2, hf2⟩
          go_wp2
          go_roundw
          case rel => exact ⟨k + 1, _, by omega, by go_num, H1.out.fr hf2 (fun j hj => by omega) hK2, hK2, hb.trans hb2⟩
          case measure => simp [intOf]; omega
        by_cases e3 : kk = 3
        · subst e3
          go_wp2
          go_roundw
          case rel => exact ⟨k + 1, rr, by omega, by go_num, H1.out.up, hK.up, hb⟩
          case measure => simp [intOf]; omega
        by_cases e4 : kk = 4
        · subst e4
          go_wp2
          go_roundw
          case rel => exact ⟨k + 1, rr, by omega, by go_num, H1.out.up, hK.up, hb⟩
          case measure => simp [intOf]; omega
        by_cases e6 : kk = 6
        · subst e6
          go_wp2
          go_roundw
          case rel => exact ⟨k + 1, rr, by omega, by go_num, H1.out.up, hK.up, hb⟩
          case measure => simp [intOf]; omega
        by_cases e9 : kk = 9
        · subst e9
          go_wp2_with fail
          refine (step_call w.heap.size A B C s t _ rr k hK H1.out a HS.out HK.out hA1 hA2).mono ?_
          rintro e w2 ⟨rfl, hK2, hT2, hb2⟩
          go_wp2
          go_roundw
          case rel => exact ⟨k + 1, rr, by omega, by go_num, hT2, hK2.up, hb.trans hb2⟩
          case measure => simp [intOf]; omega
        have b1 : (kk == 1) = false := by simpa using e1
        have b2 : (kk == 2) = false := by simpa using e2
        have b3 : (kk == 3) = false := by simpa using e3
        have b4 : (kk == 4) = false := by simpa using e4
        have b5 : (kk == 5) = false := by simpa using e5
        have b6 : (kk == 6) = false := by simpa using e6
        have b7 : (kk == 7) = false := by simpa using e7
        have b8 : (kk == 8) = false := by simpa using e8
        have b9 : (kk == 9) = false := by simpa using e9
        have n9 : (kk != 9) = true := by simpa using e9
        clear e1 e2 e3 e4 e5 e6 e7 e8 e9
        go_wp2_with fail
        refine (step_other w.heap.size kk A B C s t _ b1 b2 b3 b4 b5 b6 b7 b8 b9).mono ?_
        rintro e w2 ⟨rfl, hb2⟩
        go_wp2
        go_roundw
        case rel => exact ⟨k + 1, rr, by omega, by go_num, (H1.out.below hb2).up, (hK.grown hb2).up, hb.trans (hb2.mono hsz)⟩
        case measure => simp [intOf]; omega
      · clear hc hS
        go_wp2
        go_ret
        exact ⟨rfl, hb⟩
  · have hd : decide (tot ops ≤ 1048576) = false := by simp; omega
    rw [hd] at HSM
    clear hd ho
    go_enter Tryz.func6, Tryz.ntmps6
    go_wp2_with fail
    refine HSM.out.mono ?_
    rintro e w1 ⟨rfl, q, hw1⟩
    subst hw1
    go_wp2
    go_ret
    exact ⟨rfl, below_drewN (Below.refl _ _) _⟩
end Go.Proofs.YtibofakbhgmhiabGreatDoor

namespace Go.Proofs.YtibofakbhgmhiabGreatDoor
open Go.ChangeShapes Go.WideShapes Go.RowKit

theorem laidVars_perm {P : Program} {W : World} {L L' : List (String × DataW Unit)} (h : L.Perm L') : ∀ {ps : List MemPlace}, DataW.LaidVars P W L ps → ∃ ps', DataW.LaidVars P W L' ps' ∧ ps.Perm ps' := by
  induction h with
  | nil => exact fun h => ⟨_, h, List.Perm.refl _⟩
  | cons x _ ih =>
    rintro ps ⟨g, t, cs, fuel, p, q, hg, ht, hv, hd, hr, rfl⟩
    obtain ⟨q', hr', hp⟩ := ih hr
    exact ⟨_, ⟨g, t, cs, fuel, p, q', hg, ht, hv, hd, hr', rfl⟩, hp.append_left _⟩
  | swap x y l =>
    rintro ps ⟨g, t, cs, fuel, p, q, hg, ht, hv, hd, ⟨g2, t2, cs2, fuel2, p2, q2, hg2, ht2, hv2, hd2, hr2, rfl⟩, rfl⟩
    refine ⟨_, ⟨g2, t2, cs2, fuel2, p2, _, hg2, ht2, hv2, hd2, ⟨g, t, cs, fuel, p, q2, hg, ht, hv, hd, hr2, rfl⟩, rfl⟩, ?_⟩
    have key : ∀ a b c : List MemPlace, (a ++ (b ++ c)).Perm (b ++ (a ++ c)) := fun a b c => by
      rw [← List.append_assoc, ← List.append_assoc]
      exact List.perm_append_comm.append_right _
    exact key _ _ _
  | trans _ _ ih1 ih2 =>
    intro ps h
    obtain ⟨p1, h1, e1⟩ := ih1 h
    obtain ⟨p2, h2, e2⟩ := ih2 h1
    exact ⟨p2, h2, e1.trans e2⟩
theorem laidMet_perm {P : Program} {W : World} {L L' : List (String × DataW Unit)} (h : L.Perm L') (hm : laidMet P L W) : laidMet P L' W := by
  obtain ⟨ps, hv, hnd, hr⟩ := hm
  obtain ⟨ps', hv', hp⟩ := laidVars_perm h hv
  exact ⟨ps', hv', hp.nodup_iff.1 hnd, fun b off hm => hr b off (hp.mem_iff.2 hm)⟩
theorem perm_idx {α : Type} (d : α) (L : List α) (idx : List Nat) (h : idx.Perm (List.range L.length)) : L.Perm (idx.map fun i => L.getD i d) := by
  have e : L = (List.range L.length).map fun i => L.getD i d := by
    apply List.ext_getElem
    · simp
    · intro i h1 h2
      simp [List.getD, List.getElem?_eq_getElem h1]
  conv => lhs; rw [e]
  exact (h.symm).map _
end Go.Proofs.YtibofakbhgmhiabGreatDoor

namespace Go.Proofs.YtibofakbhgmhiabGreatDoor
open Go.ChangeShapes Go.WideShapes Go.RowKit

theorem lease_facts {W : World} (h : laidMetH Tryz.prog Rows.leasesRow.laid W) : ∃ a, Sents W a := by
  have h' : laidMet Tryz.prog [("mapreduce/mapreduce.ErrArg", Rows.laid_mapreduce_mapreduce_ErrArg), ("mapreduce/mapreduce.ErrShort", Rows.laid_mapreduce_mapreduce_ErrShort), ("mapreduce/mapreduce.ErrSum", Rows.laid_mapreduce_mapreduce_ErrSum), ("mapreduce/mapreduce.ErrInput", Rows.laid_mapreduce_mapreduce_ErrInput), ("mapreduce/mapreduce.ErrFull", Rows.laid_mapreduce_mapreduce_ErrFull), ("mapreduce/mapreduce.ErrUnknown", Rows.laid_mapreduce_mapreduce_ErrUnknown), ("mapreduce/mapreduce.ErrStale", Rows.laid_mapreduce_mapreduce_ErrStale), ("mapreduce/mapreduce.ErrWait", Rows.laid_mapreduce_mapreduce_ErrWait), ("mapreduce/mapreduce.ErrDone", Rows.laid_mapreduce_mapreduce_ErrDone), ("mapreduce/mapreduce.ErrExhausted", Rows.laid_mapreduce_mapreduce_ErrExhausted), ("mapreduce/mapreduce.ErrEnded", Rows.laid_mapreduce_mapreduce_ErrEnded), ("internal/strconv.uint64pow10", Rows.laid_internal_strconv_uint64pow10), ("math/bits.deBruijn32tab", Rows.laid_math_bits_deBruijn32tab), ("math/bits.deBruijn64tab", Rows.laid_math_bits_deBruijn64tab), ("unicode/utf8.first", Rows.laid_unicode_utf8_first), ("unicode/utf8.acceptRanges", Rows.laid_unicode_utf8_acceptRanges), ("mapreduce/mapreduce.nibbleSums", Rows.laid_mapreduce_mapreduce_nibbleSums)] W ∧ handlesMet Tryz.prog [("errors.errorType", Rows.laid_errors_errorType)] W := h
  obtain ⟨hm, hh⟩ := h'
  have hp := perm_idx ("errors.errorType", Rows.laid_errors_errorType) [("mapreduce/mapreduce.ErrArg", Rows.laid_mapreduce_mapreduce_ErrArg), ("mapreduce/mapreduce.ErrShort", Rows.laid_mapreduce_mapreduce_ErrShort), ("mapreduce/mapreduce.ErrSum", Rows.laid_mapreduce_mapreduce_ErrSum), ("mapreduce/mapreduce.ErrInput", Rows.laid_mapreduce_mapreduce_ErrInput), ("mapreduce/mapreduce.ErrFull", Rows.laid_mapreduce_mapreduce_ErrFull), ("mapreduce/mapreduce.ErrUnknown", Rows.laid_mapreduce_mapreduce_ErrUnknown), ("mapreduce/mapreduce.ErrStale", Rows.laid_mapreduce_mapreduce_ErrStale), ("mapreduce/mapreduce.ErrWait", Rows.laid_mapreduce_mapreduce_ErrWait), ("mapreduce/mapreduce.ErrDone", Rows.laid_mapreduce_mapreduce_ErrDone), ("mapreduce/mapreduce.ErrExhausted", Rows.laid_mapreduce_mapreduce_ErrExhausted), ("mapreduce/mapreduce.ErrEnded", Rows.laid_mapreduce_mapreduce_ErrEnded), ("internal/strconv.uint64pow10", Rows.laid_internal_strconv_uint64pow10), ("math/bits.deBruijn32tab", Rows.laid_math_bits_deBruijn32tab), ("math/bits.deBruijn64tab", Rows.laid_math_bits_deBruijn64tab), ("unicode/utf8.first", Rows.laid_unicode_utf8_first), ("unicode/utf8.acceptRanges", Rows.laid_unicode_utf8_acceptRanges), ("mapreduce/mapreduce.nibbleSums", Rows.laid_mapreduce_mapreduce_nibbleSums)] [0, 1, 2, 3, 4, 5, 6, 7, 8, 9, 10, 16, 11, 12, 13, 14, 15] (by decide)
  obtain ⟨ps, hv, hnd, hrows⟩ := laidMet_perm hp hm
  have hv' : DataW.LaidVars Tryz.prog W (sentVars ++ [("mapreduce/mapreduce.nibbleSums", Rows.laid_mapreduce_mapreduce_nibbleSums), ("internal/strconv.uint64pow10", Rows.laid_internal_strconv_uint64pow10), ("math/bits.deBruijn32tab", Rows.laid_math_bits_deBruijn32tab), ("math/bits.deBruijn64tab", Rows.laid_math_bits_deBruijn64tab), ("unicode/utf8.first", Rows.laid_unicode_utf8_first), ("unicode/utf8.acceptRanges", Rows.laid_unicode_utf8_acceptRanges)]) ps := hv
  obtain ⟨_, _, a, _, _, S⟩ := sents_of hv' hnd hrows hh
  exact ⟨a, S⟩
end Go.Proofs.YtibofakbhgmhiabGreatDoor

namespace Go.Proofs.YtibofakbhgmhiabGreatDoor
open Go.ChangeShapes Go.WideShapes Go.RowKit

theorem Tryz.laidOut : laidOutB Tryz.prog = true := by kernel_rfl
theorem Tryz.own : ownKnob Tryz.prog.godebug = none := by kernel_rfl

theorem OpsAt.below {w w' : World} {v : Value} {ops : List OpD} (h : OpsAt w v ops) (hb : Below w.heap.size w w') : OpsAt w' v ops := by
  obtain ⟨ao, co, rfl, hc⟩ := h
  refine ⟨ao, co, rfl, fun j hj => ?_⟩
  obtain ⟨b, off, rfl, c0, c1, c2, c3, c4, c5⟩ := hc j hj
  exact ⟨b, off, rfl, (hb.cell (hp_lt c0)).trans c0, (hb.cell (hp_lt c1)).trans c1, (hb.cell (hp_lt c2)).trans c2, (hb.cell (hp_lt c3)).trans c3, (hb.cell (hp_lt c4)).trans c4, (hb.cell (hp_lt c5)).trans c5⟩
set_option maxHeartbeats 1000000 in
theorem leases_any (a : Nat → Addr) (ops : List OpD) (v : Value) (w : World) (S : Sents w a) (ho : OpsAt w v ops) (hn : ops.length ≤ 140737488351232)
    (hS : ∀ o ∈ ops, (o.s.size ≤ 140737488351232 ∧ o.t.size ≤ 140737488351232) ∧ -9223372036854775808 ≤ o.A ∧ o.A ≤ 9223372036854775807) :
    Calls Tryz.prog 4 #[v] w fun e w' => e = .returned (.bool true) ∧ Below w.heap.size w w' := by
  have SA := SL.entry S
  have HA : Hid (Calls Tryz.prog 7 #[] w fun e w1 => e = .returned (.bool true) ∧ Calls Tryz.prog 6 #[v, .int .i64 9] w1 fun e w2 => e = .returned (.bool true) ∧ Below w.heap.size w w2) := by
    refine (alive w a SA).mono ?_
    rintro e w1 ⟨rfl, hb⟩
    have S1 := SL.entry (SA.sents hb)
    refine ⟨rfl, (plays ops v w1 a S1 (ho.below hb) hn hS).mono ?_⟩
    rintro e w2 ⟨rfl, hb2⟩
    exact ⟨rfl, hb.trans (hb2.mono hb.size)⟩
  clear S SA hS hn ho
  go_enter Tryz.func4, Tryz.ntmps4
  go_wp2_with (first | (go_at_call 7; refine HA.out.mono ?_; rintro e w1 ⟨rfl, HB⟩) | (go_at_call 6; refine HB.mono ?_; rintro e w2 ⟨rfl, hb⟩))
  go_ret
  exact ⟨rfl, hb⟩

theorem leases_met (os : Os) (args : Array Value) : laidMetH Tryz.prog Rows.leasesRow.laid (((World.doorLaid Tryz.prog 400 os).layVars Tryz.prog [("unicode/utf8.first", Rows.laid_unicode_utf8_first)]).forCall (fun _ _ => 0) ⟨#[], args, []⟩).memory :=
  laidMetH_of_parts3 (fuel := 8) (laidMet_layVars (w0 := World.doorLaid Tryz.prog 400 os) ["unicode/utf8.first"] ((List.range (World.doorLaid Tryz.prog 400 os).heap.size).filter (fun k => k != 14)) (by kernel_rfl) (by kernel_rfl) (by kernel_rfl) (LaidIn.of_run _ 8 (by kernel_rfl) (by kernel_rfl) (by kernel_rfl) (by kernel_rfl))) (by kernel_rfl) (by kernel_rfl)

set_option maxRecDepth 100000 in
theorem leases_lifted (os : Os) (started : os.Started) (H : Type) (enc : TypeId × Value → H) :
    ReturnsInHanded {} Tryz.checked os 4 .any (fun w args => (Rows.leasesSpec.pre enc Tryz.prog Tryz.f4 [] false w args ∧ laidMetH Tryz.prog Rows.leasesRow.laid w) ∧ sizedMet enc Tryz.prog Tryz.f4 (OpenSpec.ofChange Rows.leasesSpec) false w args)
      (Rows.leasesSpec.post enc Tryz.prog Tryz.f4 false true false false) := by
  refine returnsInHanded_of_change_and (C := Tryz.checked) (X := fun w _ => laidMetH Tryz.prog Rows.leasesRow.laid w) (fun _ _ _ hh h => h.of_heap hh) Tryz.own started (by kernel_rfl) Tryz.func4
    (ChangeSpec.witness_shaped (enc := enc) (C := Tryz.checked) (os := os) (X := fun w _ => laidMetH Tryz.prog Rows.leasesRow.laid w) false ((World.doorLaid Tryz.prog 400 os).layVars Tryz.prog [("unicode/utf8.first", Rows.laid_unicode_utf8_first)]) #[.slice none 0 0] 8 (World.layVars_os _ _ _) (World.shaped_of_ZipB (by kernel_rfl) (by kernel_rfl)) (by kernel_rfl) (by kernel_rfl) (by kernel_rfl) (leases_met os _)) ?_
  intro W base args ds gs before hval0 hW _ hsz hL _
  have hval : ∀ (j : Nat) t v, Tryz.f4.params[j]? = some t → args[j]? = some v → Value.okWide Tryz.prog W .any base t v := hval0
  have hW' := hW
  obtain ⟨p, q, hA0, hV, rfl, hfz, hnd⟩ := hW
  have hA : DataW.TrodAll enc Tryz.prog W 0 (fun _ => true) true Tryz.f4.params.toList args.toList ds p := hA0
  rw [Tryz.params4] at hA hval hsz
  obtain ⟨v0, d0, rfl, rfl, h0⟩ := trodAll_one hA
  obtain ⟨rfl, rfl⟩ := trodVars_none hV
  obtain ⟨ao, len, cap, rfl⟩ := okWide_slice Tryz.underlying22 (hval 0 22 v0 rfl rfl)
  have h0' := h0
  have hplt : ∀ x ∈ p, x.block < W.heap.size := fun x hx => by simpa using hW'.lt x (by simpa using hx)
  obtain ⟨fuel, hf⟩ := h0
  have hf' : DataW.trod enc Tryz.prog W 0 (fun _ => true) true fuel 22 [.slice ao len cap] = some (d0, p) := hf
  obtain ⟨ops, ho, hn, hS⟩ := ops_of_trod hf' (fun n hm => by
    have := List.all_eq_true.1 hsz n (DataW.weights_mem_each (j := 0) (t := 22) (d := d0) rfl rfl n hm)
    simpa using this)
  obtain ⟨a, S⟩ := lease_facts hL
  refine (leases_any a ops _ W S ho hn hS).mono fun e W' ⟨he, hb⟩ => ?_
  subst he
  have e1 : Rows.leasesSpec.fn H ([d0] ++ []) = { results := [.lit (.bool true)], args := [d0] } := by simp [Rows.leasesSpec]
  refine ⟨_, rfl, _, _, _, [], p, [], hW', ?_, ?_, ?_, hb.frame _, fun h => by cases h⟩
  · rw [e1]; exact trodAll_mk1 (shut_bool Tryz.underlying4 true)
  · rw [e1]
    exact trodAll_mk1 (Below.trod Tryz.laidOut (by kernel_rfl) (of_decide_eq_true (by kernel_rfl)) h0' hb hplt)
  · rw [e1]; rfl

end Go.Proofs.YtibofakbhgmhiabGreatDoor
