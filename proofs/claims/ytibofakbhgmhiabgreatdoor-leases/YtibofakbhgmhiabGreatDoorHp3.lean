import Derived.Test.YtibofakbhgmhiabGreatDoorHp2
import Derived.Deep.RegionHeld
namespace Go.Proofs.YtibofakbhgmhiabGreatDoor
open Go.RowKit

def ltHd (a b : Hd) : Bool := ltH a.K a.r b.K b.r
/-- one look of leastOf -/
def look (xs : List Hd) (l b : Nat) : Nat := if h : b < xs.length ∧ l < xs.length then (if ltHd (xs[b]'h.1) (xs[l]'h.2) then b else l) else l
def looks (xs : List Hd) (l : Nat) (bs : List Nat) : Nat := bs.foldl (look xs) l
theorem look_lt {xs : List Hd} {l : Nat} (h : l < xs.length) (b : Nat) : look xs l b < xs.length := by
  unfold look; split
  · split <;> omega
  · exact h
theorem looks_lt {xs : List Hd} : ∀ (bs : List Nat) {l : Nat}, l < xs.length → looks xs l bs < xs.length
  | [], _, h => h
  | b :: bs, _, h => looks_lt bs (look_lt h b)
theorem looks_succ (xs : List Hd) (l : Nat) (bs : List Nat) (k : Nat) (h : k < bs.length) : looks xs l (bs.take (k + 1)) = look xs (looks xs l (bs.take k)) bs[k] := by
  unfold looks; rw [List.take_succ_eq_append_getElem h, List.foldl_append]; rfl

def IntsAt (w : World) (bb : Nat) (bs : List Nat) : Prop := ∀ j (h : j < bs.length), w.cell? ⟨bb, j, none⟩ = some (.int .i64 bs[j])

set_option maxHeartbeats 2000000 in
set_option maxRecDepth 100000 in
theorem hleast {B Hb Lb g cap : Nat} {w : World} {xs : List Hd} (h : HpAt B Hb Lb g cap w xs) (at' : Nat) (bs : List Nat) (bb : Nat) (hat : 0 < xs.length → at' < xs.length) (hbs : IntsAt w bb bs) (hbl : bs.length ≤ 1048576) (hbb : bb < w.heap.size) :
    Calls Tryz.prog 327 #[.pointer (some ⟨Hb, 0, none⟩), .int .i64 at', .slice (some ⟨bb, 0, none⟩) bs.length bs.length] w fun e w' => e = .returned (.int .i64 (looks xs at' bs : Nat)) ∧ Below w.heap.size w w' := by
  go_enter Tryz.func327, Tryz.ntmps327
  go_wp2_with fail
  go_loopw [7, 13] (fun l k wr => ∃ j : Nat, j ≤ bs.length ∧ k = .int .i64 j ∧ l = .int .i64 (looks xs at' (bs.take j) : Nat) ∧ Below w.heap.size w wr) (fun _ k _ => bs.length - (intOf k).toNat)
  case atStart => exact ⟨0, Nat.zero_le _, rfl, by simp [looks], Below.refl _ _⟩
  case round =>
    obtain ⟨j, hj, rfl, rfl, hb⟩ := hrel
    have hw := h.below hb
    by_cases hjl : j < bs.length
    · have hl : 0 < xs.length → looks xs at' (bs.take j) < xs.length := fun h0 => looks_lt (xs := xs) (bs.take j) (hat h0)
      have HS : Hid (looks xs at' (bs.take (j + 1)) = look xs (looks xs at' (bs.take j)) bs[j]) := looks_succ xs at' bs j hjl
      have cb := (hb.cell (p := ⟨bb, j, none⟩) hbb).trans (hbs j hjl)
      generalize looks xs at' (bs.take j) = l at *
      generalize bs[j] = b at *
      obtain ⟨c0, c1, c2⟩ := hw.hcell
      by_cases hbx : b < xs.length
      · replace hl := hl (by omega)
        clear hat
        obtain ⟨l0, l1, l2, l3⟩ := hw.cells l hl
        obtain ⟨b0, b1, b2, b3⟩ := hw.cells b hbx
        have HS2 : Hid (look xs l b = if ltH (xs[b].K) (xs[b].r) (xs[l].K) (xs[l].r) then b else l) := by
          show look xs l b = _
          unfold look; rw [dif_pos ⟨hbx, hl⟩]; rfl
        generalize xs[b] = xb at *
        generalize xs[l] = xl at *
        obtain ⟨kb, tb, rb, nb⟩ := xb
        obtain ⟨kl, tl, rl, nl⟩ := xl
        simp only at b0 b1 b2 b3 l0 l1 l2 l3 HS2
        have hgl := hw.gB.2
        have hHl := lt_of_block hw.blk
        have hLl := lt_of_block hw.lss
        clear hw hbs h
        generalize xs.length = n at *
        have HK : Hid (∀ w1, Below wr.heap.size wr.drew w1 → w1.cell? ⟨Hb, 0, none⟩ = some (.func (.func 282) #[] #[.pointer (some ⟨Lb, 0, none⟩)]) ∧ w1.cell? ⟨Hb, 1, none⟩ = some (.slice (some ⟨g, 0, none⟩) n cap) ∧ w1.cell? ⟨Lb, 0, none⟩ = some (.func (.func 76) #[] #[]) ∧ w1.cell? ⟨g, b * 4, none⟩ = some (.int .i64 kb) ∧ w1.cell? ⟨g, b * 4 + 1, none⟩ = some (.int .i64 tb) ∧ w1.cell? ⟨g, b * 4 + 2, none⟩ = some (.int .i64 rb) ∧ w1.cell? ⟨g, b * 4 + 3, none⟩ = some (.int .i64 nb) ∧ w1.cell? ⟨g, l * 4, none⟩ = some (.int .i64 kl) ∧ w1.cell? ⟨g, l * 4 + 1, none⟩ = some (.int .i64 tl) ∧ w1.cell? ⟨g, l * 4 + 2, none⟩ = some (.int .i64 rl) ∧ w1.cell? ⟨g, l * 4 + 3, none⟩ = some (.int .i64 nl)) := by
          intro w1 hb1
          exact ⟨(hb1.cell (p := ⟨Hb, 0, none⟩) hHl).trans c0, (hb1.cell (p := ⟨Hb, 1, none⟩) hHl).trans c1, (hb1.cell (p := ⟨Lb, 0, none⟩) hLl).trans c2, (hb1.cell (p := ⟨g, b * 4, none⟩) hgl).trans b0, (hb1.cell (p := ⟨g, b * 4 + 1, none⟩) hgl).trans b1, (hb1.cell (p := ⟨g, b * 4 + 2, none⟩) hgl).trans b2, (hb1.cell (p := ⟨g, b * 4 + 3, none⟩) hgl).trans b3, (hb1.cell (p := ⟨g, l * 4, none⟩) hgl).trans l0, (hb1.cell (p := ⟨g, l * 4 + 1, none⟩) hgl).trans l1, (hb1.cell (p := ⟨g, l * 4 + 2, none⟩) hgl).trans l2, (hb1.cell (p := ⟨g, l * 4 + 3, none⟩) hgl).trans l3⟩
        go_wp2_with fail
        go_region_held (fun w1 => w1.cell? ⟨Hb, 0, none⟩ = some (.func (.func 282) #[] #[.pointer (some ⟨Lb, 0, none⟩)]) ∧ w1.cell? ⟨Hb, 1, none⟩ = some (.slice (some ⟨g, 0, none⟩) n cap) ∧ w1.cell? ⟨Lb, 0, none⟩ = some (.func (.func 76) #[] #[]) ∧ w1.cell? ⟨g, b * 4, none⟩ = some (.int .i64 kb) ∧ w1.cell? ⟨g, b * 4 + 1, none⟩ = some (.int .i64 tb) ∧ w1.cell? ⟨g, b * 4 + 2, none⟩ = some (.int .i64 rb) ∧ w1.cell? ⟨g, b * 4 + 3, none⟩ = some (.int .i64 nb) ∧ w1.cell? ⟨g, l * 4, none⟩ = some (.int .i64 kl) ∧ w1.cell? ⟨g, l * 4 + 1, none⟩ = some (.int .i64 tl) ∧ w1.cell? ⟨g, l * 4 + 2, none⟩ = some (.int .i64 rl) ∧ w1.cell? ⟨g, l * 4 + 3, none⟩ = some (.int .i64 nl)) (first | exact HK.out _ (by assumption) | go_keep) (first | (go_at_call 282; refine (order1 kb tb rb nb kl tl rl nl Lb wr.drew c2).mono ?_; rintro e w1 ⟨rfl, hb1⟩))
        have hB2 := hb.drew.trans (hb1.mono hb.size)
        cases hlt : ltH kb rb kl rl with
        | true =>
          go_wp2
          go_roundw
          case rel => exact ⟨j + 1, by omega, by go_num, by rw [HS.out, HS2.out, hlt]; rfl, hB2⟩
          case measure => simp [intOf]; omega
        | false =>
          go_wp2
          go_roundw
          case rel => exact ⟨j + 1, by omega, by go_num, by rw [HS.out, HS2.out, hlt]; rfl, hB2⟩
          case measure => simp [intOf]; omega
      · have HS2 : Hid (look xs l b = l) := by
          show look xs l b = l
          unfold look; rw [dif_neg (fun h => hbx h.1)]
        have hd : decide ((b : Int) < (xs.length : Int)) = false := by simp; omega
        clear hw hbs h hl hat
        generalize xs.length = n at *
        go_wp2_with fail
        go_quiet (fail)
        go_wp2
        go_roundw
        case rel => exact ⟨j + 1, by omega, by go_num, by rw [HS.out, HS2.out], below_drewN hb _⟩
        case measure => simp [intOf]; omega
    · have : j = bs.length := by omega
      subst this
      clear hw
      go_wp2
      go_ret
      exact ⟨by simp, hb⟩
end Go.Proofs.YtibofakbhgmhiabGreatDoor
