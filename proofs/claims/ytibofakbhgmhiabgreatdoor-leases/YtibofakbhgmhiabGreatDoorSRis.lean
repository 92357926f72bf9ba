import Derived.Test.YtibofakbhgmhiabGreatDoorPur
import Derived.Test.YtibofakbhgmhiabGreatDoorCpy
import Derived.OneCell
namespace Go.Proofs.YtibofakbhgmhiabGreatDoor
open Go.RowKit

theorem idx (s : ByteArray) (j : Nat) (n : Int) (hn : n = (j : Int)) (h : j < s.size) (w : World) : (Instr.index 9 (.string s) (.int .i64 n)).run Tryz.prog w = .ok (.int .u8 ((s.data.toList.getD j 0).toNat : Int)) w := by
  subst hn
  rw [run_index_string _ _ _ _ _ Tryz.underlying9]
  have : (s.data.toList.getD j 0) = s[j] := by
    have h' : j < s.data.toList.length := by simpa using h
    rw [List.getD, List.getElem?_eq_getElem h']
    rfl
  rw [this]
  simp [h]

def ic (l : List Int) : List Value := l.map (Value.int .i64)
theorem Tryz.infoInt : (Tryz.prog.info? 3).map (fun i => (i.zero, i.size, i.bytes)) = some (some (.int .i64 0), 1, 8) := by kernel_rfl

theorem own_set {w : World} {B : Nat} {e : TypeId} {g n cap : Nat} {xs : List Value} (h : w.ownsRow B e 1 (.slice (some ⟨g, 0, none⟩) n cap) n xs) (k : Nat) (u : Value) :
    (w.setCell ⟨g, k, none⟩ u).ownsRow B e 1 (.slice (some ⟨g, 0, none⟩) n cap) n (xs.set k u) := by
  refine ⟨by rw [List.length_set]; exact h.1, ?_⟩
  rcases h.2 with ⟨hn, _⟩ | ⟨g', cap', cur, hv, hb, hg, hnc, hm, hs, htk⟩
  · cases hn
  · simp only [Value.slice.injEq, Option.some.injEq, Addr.mk.injEq] at hv
    obtain ⟨⟨rfl, _, _⟩, _, rfl⟩ := hv
    refine .inr ⟨g, cap, cur.setIfInBounds k u, rfl, hb, ?_, hnc, hm, by simpa using hs, ?_⟩
    · simp only [World.setCell, Array.getElem?_modify, if_true, hg]
      simp
    · rw [Array.toList_setIfInBounds, List.take_set, htk]
theorem own_cell {w : World} {B : Nat} {e : TypeId} {g n cap : Nat} {l : List Int} (h : w.ownsRow B e 1 (.slice (some ⟨g, 0, none⟩) n cap) n (ic l)) (k : Nat) (hk : k < l.length) : w.cell? ⟨g, k, none⟩ = some (.int .i64 l[k]) ∧ w.frozen? ⟨g, k, none⟩ = false := by
  constructor
  · have := h.cells (g := g) rfl k (.int .i64 l[k]) (by simp [ic, hk])
    have e : (⟨g, 0, none⟩ : Addr).add k = ⟨g, k, none⟩ := by unfold Addr.add; split <;> simp_all
    rwa [e] at this
  · rcases h.2 with ⟨hn, _⟩ | ⟨g', cap', cur, hv, hb, hg, _⟩
    · cases hn
    · simp only [Value.slice.injEq, Option.some.injEq, Addr.mk.injEq] at hv
      obtain ⟨⟨rfl, _, _⟩, _, rfl⟩ := hv
      simp [World.frozen?, hg]
theorem ic_set (l : List Int) (k : Nat) (x : Int) : (ic l).set k (.int .i64 x) = ic (l.set k x) := by simp [ic, List.map_set]
theorem ic_length (l : List Int) : (ic l).length = l.length := by simp [ic]

set_option maxHeartbeats 2000000 in
set_option maxRecDepth 100000 in
theorem rising (s : ByteArray) (w : World) (hs : s.size ≤ 1099511627776) :
    Calls Tryz.prog 23 #[.string s] w fun e w' => (∃ v l, e = .returned v ∧ Srt l ∧ l.length ≤ s.size ∧ w'.ownsRow w.heap.size 3 1 v l.length (ic l)) ∧ Below w.heap.size w w' := by
  obtain ⟨i0, hi, hz0, hz1, hz2⟩ := info_parts Tryz.infoInt
  go_enter Tryz.func23, Tryz.ntmps23
  go_wp2_with fail
  go_loopw [3, 4] (fun v i wr => ∃ l : List Int, Srt l ∧ l.length ≤ s.size ∧ i = .int .i64 l.length ∧ wr.ownsRow w.heap.size 3 1 v l.length (ic l) ∧ Below w.heap.size w wr) (fun _ i _ => s.size - (intOf i).toNat)
  case atStart => exact ⟨[], srt_nil, Nat.zero_le _, rfl, World.ownsRow_nil _ _ _ _, Below.refl _ _⟩
  case round =>
    obtain ⟨l, hsrt, hl, rfl, hown, hb⟩ := hrel
    have hsz := hb.size
    by_cases hlt : l.length < s.size
    · have hidx := fun W => idx s l.length (l.length : Int) rfl hlt W
      have hbt := (s.data.toList.getD l.length 0).toNat_lt
      generalize (s.data.toList.getD l.length 0).toNat = y at *
      go_wp2_with (at_builtin; refine wpList_append_own _ rfl (.tmp 13) (.tmp 18) 66 rfl w.heap.size 3 i0 (.int .i64 0) 1 8 Tryz.underlying66 hi hz0 hz1 hz2 rfl (by decide) _ _ _ rfl (hown.alloc _) ⟨wr.heap.size, 0, none⟩ 1 1 [.int .i64 y] rfl rfl ?c1 ?c2 ?c3 ?c4 ?c5 ?_)
      case c1 =>
        intro j u hj
        have e : (⟨wr.heap.size, 0, none⟩ : Addr).add j = ⟨wr.heap.size, j, none⟩ := by unfold Addr.add; split <;> simp_all
        rw [e, World.cell?_alloc_at _ _ _ _ (by simp)]
        rcases j with _ | j
        · simpa using hj
        · simp at hj
      case c2 => intro u hu; simp at hu; subst hu; rfl
      case c3 => unfold maxLen; omega
      case c4 => omega
      case c5 => simp; omega
      intro v1 w1 hown1 hg1 _
      have hb1 : Below w.heap.size w w1 := (hb.alloc hsz _).grown hg1 (by simp; omega) (fun k hk => (hown.lt k hk).1)
      have hown2 : w1.ownsRow w.heap.size 3 1 v1 (l ++ [(y : Int)]).length (ic (l ++ [(y : Int)])) := by
        simpa [ic] using hown1
      obtain ⟨g, cap, hv1⟩ : ∃ g cap, v1 = .slice (some ⟨g, 0, none⟩) (l ++ [(y : Int)]).length cap := by
        rcases hown2.2 with ⟨_, hn⟩ | ⟨g, cap, cur, hv, _⟩
        · simp at hn
        · exact ⟨g, cap, hv⟩
      subst hv1
      have hgB : w.heap.size ≤ g := (hown2.lt g rfl).1
      have HL : Hid ((l ++ [(y : Int)]).length = l.length + 1) := by show _ = _; simp
      have HSR : Hid (SrtBut (l ++ [(y : Int)]) l.length) := srt_snoc hsrt y
      generalize l ++ [(y : Int)] = l1 at *
      have hl1 : l1.length ≤ l.length + 1 := by rw [HL.out]; exact Nat.le_refl _
      have hl2 : l.length + 1 ≤ l1.length := by rw [HL.out]; exact Nat.le_refl _
      clear hown1 hg1 hown hidx hb
      go_wp2_with fail
      go_loopw [5] (fun k wi => ∃ (j : Nat) (li : List Int), SrtBut li j ∧ j + 1 ≤ l1.length ∧ k = .int .i64 j ∧ li.length = l1.length ∧ wi.ownsRow w.heap.size 3 1 (.slice (some ⟨g, 0, none⟩) l1.length cap) l1.length (ic li) ∧ Below w.heap.size w wi) (fun k _ => (intOf k).toNat)
      case atStart => exact ⟨l1.length - 1, l1, by rw [show l1.length - 1 = l.length by omega]; exact HSR.out, by omega, by go_num, rfl, hown2, hb1⟩
      case round =>
        obtain ⟨j, li, hsb, hj, rfl, hli, howni, hbi⟩ := hrel
        have HSB : Hid (SrtBut li j) := hsb
        clear hsb
        have HLI : Hid (li.length = l1.length) := hli
        by_cases hj0 : j = 0
        · subst hj0
          clear hli
          go_wp2_with fail
          go_quiet (fail)
          go_wp2_with fail
          go_roundw
          case rel => exact ⟨li, srt_stop0 HSB.out, by have := HLI.out; omega, by have := HLI.out; have := HL.out; go_num, by rw [HLI.out]; exact howni, below_drewN hbi _⟩
          case measure => simp [intOf]; omega
        · have hjl : j < li.length := by omega
          have hjp : j - 1 < li.length := by omega
          obtain ⟨cj, fj⟩ := own_cell howni j hjl
          obtain ⟨cp, fp⟩ := own_cell howni (j - 1) hjp
          have ej : ((j : Int) - 1).toNat = j - 1 := by omega
          have HSW : Hid (li[j] < li[j - 1] → SrtBut ((li.set j li[j - 1]).set (j - 1) li[j]) (j - 1)) := fun h => srt_swap HSB.out hjl (by omega) h
          have HST : Hid (¬ li[j] < li[j - 1] → Srt li) := fun h => srt_stop HSB.out hjl (by omega) h
          generalize li[j] = xj at *
          generalize li[j - 1] = xp at *
          have hd : decide (0 < j) = true := by simp; omega
          have q1 : (0 : Int) ≤ (j : Int) - 1 := by omega
          have q2 : (j : Int) - 1 < (l1.length : Int) := by omega
          have q3 : (j : Int) < (l1.length : Int) := by omega
          clear hli
          go_wp2_with fail
          go_quiet (fail)
          go_wp2_with fail
          · go_roundw
            case rel =>
              refine ⟨j - 1, (li.set j xp).set (j - 1) xj, HSW.out (by assumption), by omega, by go_num, by simpa using HLI.out, ?_, ?_⟩
              · rw [← ic_set, ← ic_set]
                exact own_set (own_set (w := wr.drewN _) howni j _) (j - 1) _
              · exact ((below_drewN hbi _).setCell hgB _).setCell hgB _
            case measure => simp [intOf]; omega
          · go_roundw
            case rel => exact ⟨li, HST.out (by first | assumption | omega), by have := HLI.out; omega, by have := HLI.out; have := HL.out; go_num, by rw [HLI.out]; exact howni, below_drewN hbi _⟩
            case measure => simp [intOf]; omega
    · obtain ⟨a, c, rfl⟩ := hown_slice hown
      go_wp2
      go_ret
      exact ⟨⟨_, l, rfl, hsrt, hl, hown⟩, hb⟩
end Go.Proofs.YtibofakbhgmhiabGreatDoor
