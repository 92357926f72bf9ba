import Derived.Test.YtibofakbhgmhiabGreatDoorHp3
namespace Go.Proofs.YtibofakbhgmhiabGreatDoor
open Go.RowKit

def swapL (xs : List Hd) (a b : Nat) : List Hd := if h : a < xs.length ∧ b < xs.length then (xs.set a (xs[b]'h.2)).set b (xs[a]'h.1) else xs
theorem swapL_length (xs : List Hd) (a b : Nat) : (swapL xs a b).length = xs.length := by unfold swapL; split <;> simp
def riseL (xs : List Hd) (k : Nat) : List Hd :=
  if h : 0 < k ∧ k < xs.length then (if ltHd (xs[k]'h.2) (xs[(k - 1) / 2]'(by omega)) then riseL (swapL xs k ((k - 1) / 2)) ((k - 1) / 2) else xs) else xs
termination_by k
decreasing_by omega
theorem riseL_length (xs : List Hd) (k : Nat) : (riseL xs k).length = xs.length := by
  induction k using Nat.strongRecOn generalizing xs with
  | _ k ih =>
    unfold riseL
    split
    · split
      · rw [ih _ (by omega), swapL_length]
      · rfl
    · rfl

set_option maxHeartbeats 2000000 in
set_option maxRecDepth 100000 in
theorem hrise {B Hb Lb g cap : Nat} {w : World} {xs : List Hd} (h : HpAt B Hb Lb g cap w xs) (k : Nat) (hk : k < xs.length) (hn : xs.length ≤ 1099511627776) :
    Calls Tryz.prog 284 #[.pointer (some ⟨Hb, 0, none⟩), .int .i64 k] w fun e w' => e = .returned (.tuple #[]) ∧ HpAt B Hb Lb g cap w' (riseL xs k) ∧ Kp (· = g) w w' := by
  go_enter Tryz.func284, Tryz.ntmps284
  go_wp2_with fail
  go_loopw [1] (fun kv wr => ∃ (j : Nat) (ys : List Hd), kv = .int .i64 j ∧ j < ys.length ∧ ys.length = xs.length ∧ HpAt B Hb Lb g cap wr ys ∧ riseL ys j = riseL xs k ∧ Kp (· = g) w wr) (fun kv _ => (intOf kv).toNat)
  case atStart => exact ⟨k, xs, rfl, hk, rfl, h, rfl, Kp.refl _ _⟩
  case round =>
    obtain ⟨j, ys, rfl, hj, hl, hw, he, hb⟩ := hrel
    have HL : Hid (ys.length = xs.length) := hl
    by_cases hj0 : j = 0
    · subst hj0
      have HR : Hid (riseL ys 0 = ys) := by show _ = _; unfold riseL; rw [dif_neg (by omega)]
      clear hl
      go_wp2
      go_end0
      exact ⟨rfl, by rw [← he, HR.out]; exact hw, hb⟩
    · have hj1 : j - 1 < ys.length := by omega
      obtain ⟨p, hp⟩ : ∃ p, p = (j - 1) / 2 := ⟨_, rfl⟩
      have hpl : p < ys.length := by omega
      have hpj : p < j := by omega
      have hjp : j ≠ p := by omega
      have q1 : (((j : Int) - 1).tdiv 2) = (p : Int) := by rw [Int.tdiv_eq_ediv_of_nonneg (by omega)]; omega
      have HR : Hid (riseL ys j = if ltHd ys[j] ys[p] then riseL (swapL ys j p) p else ys) := by
        show _ = _
        subst hp
        rw [riseL, dif_pos ⟨by omega, hj⟩]
      have HZ : Hid (swapL ys j p = (ys.set j ys[p]).set p ys[j]) := by show _ = _; unfold swapL; rw [dif_pos ⟨hj, hpl⟩]
      have hyl : ys.length ≤ 1099511627776 := by omega
      obtain ⟨c0, c1, c2⟩ := hw.hcell
      obtain ⟨b0, b1, b2, b3⟩ := hw.cells j hj
      obtain ⟨l0, l1, l2, l3⟩ := hw.cells p hpl
      have hgl := hw.gB.2
      have hHl := lt_of_block hw.blk
      have hLl := lt_of_block hw.lss
      have HSW : Hid (∀ w1, Below wr.heap.size wr w1 → Calls Tryz.prog 328 #[.pointer (some ⟨Hb, 0, none⟩), .int .i64 j, .int .i64 p] w1 fun e w' => e = .returned (.tuple #[]) ∧ HpAt B Hb Lb g cap w' (swapL ys j p) ∧ Kp (· = g) w1 w') := by
        intro w1 hb1
        rw [HZ.out]
        exact hswap (hw.below hb1) j p hj hpl hjp
      have HW : Hid (HpAt B Hb Lb g cap wr ys) := hw
      have HT : Hid (ltHd ys[j] ys[p] = ltH ys[j].K ys[j].r ys[p].K ys[p].r) := rfl
      clear hl hw HZ hp h
      generalize ys[j] = xb at *
      generalize ys[p] = xl at *
      obtain ⟨kb, tb, rb, nb⟩ := xb
      obtain ⟨kl, tl, rl, nl⟩ := xl
      simp only at b0 b1 b2 b3 l0 l1 l2 l3
      obtain ⟨n, hnn⟩ : ∃ n, n = ys.length := ⟨_, rfl⟩
      have HN : Hid (n = ys.length) := hnn
      rw [← hnn] at c1 hj hpl hyl
      clear hnn hj1
      have HK : Hid (∀ w1, Below wr.heap.size wr.drew w1 → w1.cell? ⟨Hb, 0, none⟩ = some (.func (.func 282) #[] #[.pointer (some ⟨Lb, 0, none⟩)]) ∧ w1.cell? ⟨Hb, 1, none⟩ = some (.slice (some ⟨g, 0, none⟩) n cap) ∧ w1.cell? ⟨Lb, 0, none⟩ = some (.func (.func 76) #[] #[]) ∧ w1.cell? ⟨g, j * 4, none⟩ = some (.int .i64 kb) ∧ w1.cell? ⟨g, j * 4 + 1, none⟩ = some (.int .i64 tb) ∧ w1.cell? ⟨g, j * 4 + 2, none⟩ = some (.int .i64 rb) ∧ w1.cell? ⟨g, j * 4 + 3, none⟩ = some (.int .i64 nb) ∧ w1.cell? ⟨g, p * 4, none⟩ = some (.int .i64 kl) ∧ w1.cell? ⟨g, p * 4 + 1, none⟩ = some (.int .i64 tl) ∧ w1.cell? ⟨g, p * 4 + 2, none⟩ = some (.int .i64 rl) ∧ w1.cell? ⟨g, p * 4 + 3, none⟩ = some (.int .i64 nl)) := by
        intro w1 hb1
        exact ⟨(hb1.cell (p := ⟨Hb, 0, none⟩) hHl).trans c0, (hb1.cell (p := ⟨Hb, 1, none⟩) hHl).trans c1, (hb1.cell (p := ⟨Lb, 0, none⟩) hLl).trans c2, (hb1.cell (p := ⟨g, j * 4, none⟩) hgl).trans b0, (hb1.cell (p := ⟨g, j * 4 + 1, none⟩) hgl).trans b1, (hb1.cell (p := ⟨g, j * 4 + 2, none⟩) hgl).trans b2, (hb1.cell (p := ⟨g, j * 4 + 3, none⟩) hgl).trans b3, (hb1.cell (p := ⟨g, p * 4, none⟩) hgl).trans l0, (hb1.cell (p := ⟨g, p * 4 + 1, none⟩) hgl).trans l1, (hb1.cell (p := ⟨g, p * 4 + 2, none⟩) hgl).trans l2, (hb1.cell (p := ⟨g, p * 4 + 3, none⟩) hgl).trans l3⟩
      go_wp2_with fail
      go_region_held (fun w1 => w1.cell? ⟨Hb, 0, none⟩ = some (.func (.func 282) #[] #[.pointer (some ⟨Lb, 0, none⟩)]) ∧ w1.cell? ⟨Hb, 1, none⟩ = some (.slice (some ⟨g, 0, none⟩) n cap) ∧ w1.cell? ⟨Lb, 0, none⟩ = some (.func (.func 76) #[] #[]) ∧ w1.cell? ⟨g, j * 4, none⟩ = some (.int .i64 kb) ∧ w1.cell? ⟨g, j * 4 + 1, none⟩ = some (.int .i64 tb) ∧ w1.cell? ⟨g, j * 4 + 2, none⟩ = some (.int .i64 rb) ∧ w1.cell? ⟨g, j * 4 + 3, none⟩ = some (.int .i64 nb) ∧ w1.cell? ⟨g, p * 4, none⟩ = some (.int .i64 kl) ∧ w1.cell? ⟨g, p * 4 + 1, none⟩ = some (.int .i64 tl) ∧ w1.cell? ⟨g, p * 4 + 2, none⟩ = some (.int .i64 rl) ∧ w1.cell? ⟨g, p * 4 + 3, none⟩ = some (.int .i64 nl)) (first | exact HK.out _ (by assumption) | go_keep) (first | (go_at_call 282; refine (order1 kb tb rb nb kl tl rl nl Lb wr.drew c2).mono ?_; rintro e w1 ⟨rfl, hb1⟩))
      have hbw : Below wr.heap.size wr w1 := ((Below.refl wr.heap.size wr).drew).trans hb1
      have hB2 : Kp (· = g) w w1 := hb.trans (Kp.of_below (P := (· = g)) hbw) (fun _ _ e => e)
      cases hlt : ltH kb rb kl rl with
      | true =>
        go_wp2_with (go_at_call 328; refine (HSW.out _ hbw).mono ?_; rintro e w2 ⟨rfl, hp2, hb2⟩)
        go_roundw
        case rel => exact ⟨p, swapL ys j p, rfl, by rw [swapL_length, ← HN.out]; exact hpl, by rw [swapL_length]; exact HL.out, hp2, by rw [← he, HR.out, HT.out, hlt]; rfl, hB2.trans hb2 (fun _ _ e => e)⟩
        case measure => simp [intOf]; omega
      | false =>
        go_wp2
        (try simp only [Exit.inBlock, Exit.then])
        refine bodyPost_ret (results_none rfl _ _ _) rfl ?_
        exact ⟨rfl, by rw [← he, HR.out, HT.out, hlt]; exact HW.out.below hbw, hB2⟩

def sinkL (xs : List Hd) (k : Nat) : List Hd :=
  if h : k < looks xs k [2 * k + 1, 2 * k + 2] ∧ looks xs k [2 * k + 1, 2 * k + 2] < xs.length then sinkL (swapL xs k (looks xs k [2 * k + 1, 2 * k + 2])) (looks xs k [2 * k + 1, 2 * k + 2]) else xs
termination_by xs.length - k
decreasing_by rw [swapL_length]; omega
theorem look_or (xs : List Hd) (l b : Nat) : look xs l b = b ∨ look xs l b = l := by
  unfold look; split
  · split
    · exact .inl rfl
    · exact .inr rfl
  · exact .inr rfl
theorem looks_two (xs : List Hd) (k : Nat) : looks xs k [2 * k + 1, 2 * k + 2] = k ∨ k < looks xs k [2 * k + 1, 2 * k + 2] := by
  show look xs (look xs k (2 * k + 1)) (2 * k + 2) = k ∨ k < look xs (look xs k (2 * k + 1)) (2 * k + 2)
  rcases look_or xs k (2 * k + 1) with h | h <;> rw [h]
  · rcases look_or xs (2 * k + 1) (2 * k + 2) with h' | h' <;> rw [h'] <;> omega
  · rcases look_or xs k (2 * k + 2) with h' | h' <;> rw [h'] <;> omega
end Go.Proofs.YtibofakbhgmhiabGreatDoor
