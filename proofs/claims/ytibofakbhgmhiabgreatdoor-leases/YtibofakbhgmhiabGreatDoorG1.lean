import Derived.Test.YtibofakbhgmhiabGreatDoorLsI
import Derived.Test.YtibofakbhgmhiabGreatDoorLsG
import Derived.Lib.SliceRun
import Derived.Deep.RegionHeld3

namespace Go.Proofs.YtibofakbhgmhiabGreatDoor
open Go.RowKit

/-- the attempt i of task k has that number -/
def Bk.has (bk : Bk) (id : Int) (k i : Nat) : Prop := ∃ hk : k < bk.ts.length, ∃ hi : i < bk.ts[k].live.length, (bk.ts[k].live[i].id : Int) = id
/-- the call is refused: no such attempt, or one that does not count -/
def Bk.no (bk : Bk) (id : Int) (p5 p6 : Addr) (e : Ending) : Prop :=
  (¬ (1 ≤ id ∧ id ≤ bk.gs) ∧ e = .returned (.iface 513 (.pointer (some p5)))) ∨
  ((1 ≤ id ∧ id ≤ bk.gs) ∧ (∀ k i, ¬ bk.has id k i) ∧ e = .returned (.iface 513 (.pointer (some p6))))

/-- find, as its callers use it -/
theorem findS {B Tb : Nat} {st : Int} {cf : Cf} {w : World} {bk : Bk} {a : Option Addr} {c : Nat} {vs : List Value} (h : TbAt B Tb st cf w bk (.slice a bk.ts.length c) vs) (id : Int) (p5 p6 : Addr) (h5 : w.cell? ⟨5, 0, none⟩ = some (.iface 513 (.pointer (some p5)))) (h6 : w.cell? ⟨6, 0, none⟩ = some (.iface 513 (.pointer (some p6)))) (hl : bk.ts.length ≤ 1048576) (hal : ∀ t ∈ bk.ts, t.live.length ≤ 1048576) :
    Calls Tryz.prog 100 #[.pointer (some ⟨Tb, 2, none⟩), .int .i64 id] w fun e w' => ((∃ p, bk.no id p5 p6 (.returned (.iface 513 (.pointer (some p)))) ∧ e = .returned (.tuple #[.pointer none, .int .i64 0, .iface 513 (.pointer (some p))])) ∨ ((1 ≤ id ∧ id ≤ bk.gs) ∧ ∃ g k i, a = some ⟨g, 0, none⟩ ∧ bk.has id k i ∧ e = .returned (.tuple #[.pointer (some ⟨g, k * 3, none⟩), .int .i64 i, .nilIface]))) ∧ Below w.heap.size w w' := by
  refine (find h id p5 p6 h5 h6 hl hal).mono ?_
  rintro e w1 ⟨⟨g, hg, hF⟩, hb⟩
  refine ⟨?_, hb⟩
  rcases hF with ⟨h1, rfl⟩ | ⟨h1, k, hk, i, hi, hid, rfl⟩ | ⟨h1, h2, rfl⟩
  · exact .inl ⟨p5, .inl ⟨h1, rfl⟩, rfl⟩
  · exact .inr ⟨h1, g, k, i, hg (fun e => by rw [e] at hk; exact Nat.not_lt_zero _ hk), ⟨hk, hi, hid⟩, rfl⟩
  · exact .inl ⟨p6, .inr ⟨h1, fun k i ⟨hk, hi, hid⟩ => h2 k hk i hi hid, rfl⟩, rfl⟩

set_option maxHeartbeats 2000000 in
set_option maxRecDepth 100000 in
theorem heartbeat {B Tb : Nat} {st : Int} {cf : Cf} {w : World} {bk : Bk} {a : Option Addr} {c : Nat} {vs : List Value} (h : TbAt B Tb st cf w bk (.slice a bk.ts.length c) vs) (hB : B ≤ Tb) (id far : Int) (p0 p5 p6 : Addr) (h0 : w.cell? ⟨0, 0, none⟩ = some (.iface 513 (.pointer (some p0)))) (h5 : w.cell? ⟨5, 0, none⟩ = some (.iface 513 (.pointer (some p5)))) (h6 : w.cell? ⟨6, 0, none⟩ = some (.iface 513 (.pointer (some p6)))) (hl : bk.ts.length ≤ 1048576) (hal : ∀ t ∈ bk.ts, t.live.length ≤ 1048576) :
    Calls Tryz.prog 151 #[.pointer (some ⟨Tb, 2, none⟩), .int .i64 id, .int .i64 far] w fun e w' => ((bk.no id p5 p6 e ∨ ((1 ≤ id ∧ id ≤ bk.gs) ∧ ¬ (0 ≤ far ∧ far ≤ 100) ∧ e = .returned (.iface 513 (.pointer (some p0))))) ∧ Below w.heap.size w w') ∨
      ((1 ≤ id ∧ id ≤ bk.gs) ∧ (0 ≤ far ∧ far ≤ 100) ∧ e = .returned .nilIface ∧ ∃ k i f, ∃ hk : k < bk.ts.length, ∃ hi : i < bk.ts[k].live.length, (bk.ts[k].live[i].id : Int) = id ∧ (∃ vs', TbAt B Tb st cf w' (bk.beat k i f bk.ts[k] bk.ts[k].live[i]) (.slice a bk.ts.length c) vs') ∧ Below B w w' ∧ Tf w w') := by
  have HF : Hid (Calls Tryz.prog 100 #[.pointer (some ⟨Tb, 2, none⟩), .int .i64 id] w _) := findS h id p5 p6 h5 h6 hl hal
  have hW : Hid (∀ W, Calls Tryz.prog 87 #[.int .i64 far, .int .i64 0, .int .i64 100] W fun e w' => e = .returned (.bool (decide (0 ≤ far ∧ far ≤ 100))) ∧ w' = W) := fun W => within far 0 100 W
  by_cases hfr : 0 ≤ far ∧ far ≤ 100
  · have hd : decide (0 ≤ far ∧ far ≤ 100) = true := by simpa using hfr
    rw [hd] at hW
    have HFR : Hid (0 ≤ far ∧ far ≤ 100) := hfr
    have hTl := lt_of_block h.blk
    -- what is found
    have HQ : Hid (∀ w1 g k i, Below w.heap.size w w1 → a = some ⟨g, 0, none⟩ → bk.has id k i → ∃ lb lc m f0, w1.cell? ⟨g, k * 3 + 2, none⟩ = some (.slice (some ⟨lb, 0, none⟩) m lc) ∧ i < m ∧ w1.cell? ⟨Tb, 13, none⟩ = some (.int .i64 bk.now) ∧ (∃ v, w1.cell? ⟨lb, i * 4 + 3, none⟩ = some v) ∧ (∀ j, w1.frozen? ⟨lb, j, none⟩ = false) ∧ (w1.setCell ⟨lb, i * 4 + 3, none⟩ (.int .i64 bk.now)).cell? ⟨lb, i * 4 + 1, none⟩ = some (.int .i64 (f0 : Nat)) ∧
        ∀ f : Nat, ∃ hk : k < bk.ts.length, ∃ hi : i < bk.ts[k].live.length, (bk.ts[k].live[i].id : Int) = id ∧ (∃ vs', TbAt B Tb st cf ((w1.setCell ⟨lb, i * 4 + 3, none⟩ (.int .i64 bk.now)).setCell ⟨lb, i * 4 + 1, none⟩ (.int .i64 f)) (bk.beat k i f bk.ts[k] bk.ts[k].live[i]) (.slice a bk.ts.length c) vs') ∧ Below B w ((w1.setCell ⟨lb, i * 4 + 3, none⟩ (.int .i64 bk.now)).setCell ⟨lb, i * 4 + 1, none⟩ (.int .i64 f)) ∧ Tf w ((w1.setCell ⟨lb, i * 4 + 3, none⟩ (.int .i64 bk.now)).setCell ⟨lb, i * 4 + 1, none⟩ (.int .i64 f))) := by
      rintro w1 g k i hb1 rfl ⟨hk, hi, hid⟩
      have h1 := h.below hb1
      have hv : k < vs.length := by rw [h.ts.len]; exact hk
      have ho := h1.ts.live k hk hv
      obtain ⟨lb, lc, elv⟩ : ∃ lb lc, vs[k] = .slice (some ⟨lb, 0, none⟩) bk.ts[k].live.length lc := by
        rcases ho.2 with ⟨_, hn⟩ | ⟨g2, cap, cur, hv2, _⟩
        · omega
        · exact ⟨g2, cap, hv2⟩
      have hats := ac_at bk.ts[k].live i hi
      have ho' := ho
      rw [elv] at ho'
      obtain ⟨_, cur, hlb, _⟩ := h1.ts.putAt k hk hv elv (i * 4 + 3) (.int .i64 bk.now) _ (by simp) (ac_set3 _ i hi bk.now)
      refine ⟨lb, lc, _, bk.ts[k].live[i].far, ?_, hi, h1.cells.2.2.2.1, ⟨_, (ho'.cellAt _ (by omega)).trans hats.2.2.2⟩, fun j => by simp [World.frozen?, hlb], ?_, fun f => ⟨hk, hi, hid, ⟨vs, (beat_at h1 (hb1.mono (by omega)) (Tf.of_below hb1) k hk hv elv i hi f).1⟩, (beat_at h1 (hb1.mono (by omega)) (Tf.of_below hb1) k hk hv elv i hi f).2⟩⟩
      · rw [← elv]; exact (h1.ts.cells k hk).2.2
      · rw [World.cell?_setCell_other _ _ _ _ (by simp)]
        exact (ho'.cellAt _ (by omega)).trans hats.2.1
    clear h hal hfr hd h0 h5 h6
    go_enter Tryz.func151, Tryz.ntmps151
    go_wp2_with (go_at_call 100; refine HF.out.mono ?_; rintro e w1 ⟨hr, hb1⟩; rcases hr with ⟨p, hno, rfl⟩ | ⟨hin, g, k, i, hag, hha, rfl⟩)
    · go_ret
      exact .inl ⟨.inl hno, hb1⟩
    · obtain ⟨lb, lc, m, f0, q1, q2, q3, ⟨v3, q4⟩, q5, q6, q7⟩ := HQ.out w1 g k i hb1 hag hha
      have HQ7 : Hid (∀ f : Nat, _) := q7
      have HIN : Hid (1 ≤ id ∧ id ≤ bk.gs) := hin
      have hq2 : (i : Int) < (m : Int) := by omega
      obtain ⟨fn, hfn⟩ : ∃ fn : Nat, far = (fn : Int) := ⟨far.toNat, by have := HFR.out; omega⟩
      subst hfn
      clear q7 hin HQ HF hha hag
      go_wp2_with (go_at_call 87; refine (hW.out _).mono ?_; rintro e w' ⟨rfl, rfl⟩)
      all_goals go_ret
      all_goals first
        | exact .inr ⟨HIN.out, by have := HFR.out; omega, rfl, k, i, fn, HQ7.out fn⟩
        | exact .inr ⟨HIN.out, by have := HFR.out; omega, rfl, k, i, f0, HQ7.out f0⟩
  · have hd : decide (0 ≤ far ∧ far ≤ 100) = false := by simpa using hfr
    rw [hd] at hW
    have HFR : Hid (¬ (0 ≤ far ∧ far ≤ 100)) := hfr
    have H0 : Hid (∀ w1, Below w.heap.size w w1 → w1.cell? ⟨0, 0, none⟩ = some (.iface 513 (.pointer (some p0)))) := fun w1 hb1 => (hb1.cell (hp_lt h0)).trans h0
    clear h hal hfr hd h0 h5 h6
    go_enter Tryz.func151, Tryz.ntmps151
    go_wp2_with (go_at_call 100; refine HF.out.mono ?_; rintro e w1 ⟨hr, hb1⟩; rcases hr with ⟨p, hno, rfl⟩ | ⟨hin, g, k, i, hag, hha, rfl⟩)
    · go_ret
      exact .inl ⟨.inl hno, hb1⟩
    · have x0 := H0.out w1 hb1
      have HIN : Hid (1 ≤ id ∧ id ≤ bk.gs) := hin
      clear HF hha hag hin
      go_wp2_with (go_at_call 87; refine (hW.out _).mono ?_; rintro e w' ⟨rfl, rfl⟩)
      go_ret
      exact .inl ⟨.inr ⟨HIN.out, by first | exact HFR.out | (have := HFR.out; omega), rfl⟩, hb1⟩
end Go.Proofs.YtibofakbhgmhiabGreatDoor

namespace Go.Proofs.YtibofakbhgmhiabGreatDoor
open Go.RowKit

def stI (l : List Tk) : Nat := l.countP Tk.idle
def stR (l : List Tk) : Nat := l.countP (fun t => !t.done && !t.idle)
def stD (l : List Tk) : Nat := l.countP (fun t => t.done)
def stL (l : List Tk) : Nat := (l.map (fun t => t.live.length)).sum
theorem countP_takeT (P : Tk → Bool) (l : List Tk) (i : Nat) (hi : i < l.length) : (l.take (i + 1)).countP P = (l.take i).countP P + (if P l[i] = true then 1 else 0) := by
  rw [List.take_succ_eq_append_getElem hi, List.countP_append]
  simp [List.countP_cons]
theorem stL_take (l : List Tk) (i : Nat) (hi : i < l.length) : stL (l.take (i + 1)) = stL (l.take i) + l[i].live.length := by
  unfold stL
  rw [List.take_succ_eq_append_getElem hi, List.map_append, List.sum_append]
  simp
theorem stL_le : ∀ (l : List Tk), (∀ t ∈ l, t.live.length ≤ 1048576) → stL l ≤ l.length * 1048576
  | [], _ => by simp [stL]
  | t :: l, h => by
    have h1 := stL_le l (fun x hx => h x (List.mem_cons_of_mem _ hx))
    have h2 := h t (List.mem_cons_self ..)
    simp only [stL, List.map_cons, List.sum_cons, List.length_cons] at h1 ⊢
    omega
/-- what Status tells of the book -/
def statV (bk : Bk) : Value := .agg #[.int .i64 bk.ph, .int .i64 (stI bk.ts), .int .i64 (stR bk.ts), .int .i64 (stD bk.ts), .int .i64 (stL bk.ts), .int .i64 ((stL bk.ts : Int) - (stR bk.ts : Int)), .int .i64 bk.now, .bool bk.fl]
theorem put2 {w : World} {X i j : Nat} {cs : Array Value} {e : TypeId} {u v : Value} (h : w.heap[X]? = some (.cells cs e (0, 0))) : ((w.setCell ⟨X, i, none⟩ u).setCell ⟨X, j, none⟩ v).heap[X]? = some (.cells ((cs.setIfInBounds i u).setIfInBounds j v) e (0, 0)) := put_block (put_block h)
theorem far2 {w : World} {X Y i j : Nat} {cs : Array Value} {e : TypeId} {u v : Value} (h : w.heap[Y]? = some (.cells cs e (0, 0))) (hne : Y ≠ X) : ((w.setCell ⟨X, i, none⟩ u).setCell ⟨X, j, none⟩ v).heap[Y]? = some (.cells cs e (0, 0)) := by
  rw [Below.heap_setCell _ ⟨X, j, none⟩ _ _ hne, Below.heap_setCell _ ⟨X, i, none⟩ _ _ hne]; exact h

set_option maxHeartbeats 1000000 in
set_option maxRecDepth 100000 in
theorem status {B Tb : Nat} {st : Int} {cf : Cf} {w : World} {bk : Bk} {tv : Value} {vs : List Value} (h : TbAt B Tb st cf w bk tv vs) (hl : bk.ts.length ≤ 1048576) (hal : ∀ t ∈ bk.ts, t.live.length ≤ 1048576) :
    Calls Tryz.prog 155 #[.pointer (some ⟨Tb, 2, none⟩)] w fun e w' => e = .returned (statV bk) ∧ Below w.heap.size w w' := by
  have hTl := lt_of_block h.blk
  obtain ⟨c10, c11, c12, c13, c14, fz⟩ := h.cells
  obtain ⟨a, c, rfl⟩ := h.ts.slice
  have HLL : Hid (stL bk.ts ≤ bk.ts.length * 1048576) := stL_le bk.ts hal
  go_enter Tryz.func155, Tryz.ntmps155
  go_wp2_with fail
  go_region
  go_wp2_with fail
  go_loopw [24] (fun jv wr => ∃ j : Nat, j ≤ bk.ts.length ∧ jv = .int .i64 j ∧ wr.heap[w.heap.size]? = some (.cells #[.int .i64 0, .int .i64 0, .int .i64 0, .int .i64 0, .int .i64 0, .int .i64 0, .int .i64 0, .bool false] 182 (0, 0)) ∧ wr.heap[w.heap.size + 1]? = some (.cells #[.int .i64 bk.ph, .int .i64 (stI (bk.ts.take j)), .int .i64 (stR (bk.ts.take j)), .int .i64 (stD (bk.ts.take j)), .int .i64 (stL (bk.ts.take j)), .int .i64 0, .int .i64 bk.now, .bool bk.fl] 182 (0, 0)) ∧ Below w.heap.size w wr) (fun jv _ => bk.ts.length - (intOf jv).toNat)
  case atStart =>
    refine ⟨0, Nat.zero_le _, rfl, ?_, ?_, ((((Below.refl _ _).alloc (Nat.le_refl _) _).alloc (by simp) _)).drew⟩
    · show ((w.alloc _).alloc _).heap[w.heap.size]? = _
      rw [Below.heap_alloc (w.alloc _) _ w.heap.size (by simp)]
      exact alloc_at w _
    · have := alloc_at (w.alloc (.cells #[.int .i64 0, .int .i64 0, .int .i64 0, .int .i64 0, .int .i64 0, .int .i64 0, .int .i64 0, .bool false] 182)) (.cells #[.int .i64 bk.ph, .int .i64 0, .int .i64 0, .int .i64 0, .int .i64 0, .int .i64 0, .int .i64 bk.now, .bool bk.fl] 182)
      have hs : (w.alloc (.cells #[.int .i64 0, .int .i64 0, .int .i64 0, .int .i64 0, .int .i64 0, .int .i64 0, .int .i64 0, .bool false] 182)).heap.size = w.heap.size + 1 := by simp
      rw [hs] at this
      exact this
  case round =>
    obtain ⟨j, hj, rfl, hR, hS, hb⟩ := hrel
    have hsz := hb.size
    have hSl := lt_of_block hS
    by_cases hjl : j < bk.ts.length
    · obtain ⟨g, c', e⟩ := h.ts.at0 j hjl
      simp only [Value.slice.injEq] at e
      obtain ⟨rfl, _, rfl⟩ := e
      obtain ⟨d0, d1, d2⟩ := (h.ts.below hb).cells j hjl
      have hjv : j < vs.length := by rw [h.ts.len]; exact hjl
      obtain ⟨la, lc, hlv⟩ := h.ts.lv j hjl hjv
      rw [hlv] at d2
      have hll := hal _ (List.getElem_mem hjl)
      have HT : Hid (stI (bk.ts.take (j + 1)) = stI (bk.ts.take j) + (if bk.ts[j].idle = true then 1 else 0) ∧ stR (bk.ts.take (j + 1)) = stR (bk.ts.take j) + (if (!bk.ts[j].done && !bk.ts[j].idle) = true then 1 else 0) ∧ stD (bk.ts.take (j + 1)) = stD (bk.ts.take j) + (if bk.ts[j].done = true then 1 else 0) ∧ stL (bk.ts.take (j + 1)) = stL (bk.ts.take j) + bk.ts[j].live.length) := ⟨countP_takeT _ _ j hjl, countP_takeT _ _ j hjl, countP_takeT _ _ j hjl, stL_take _ j hjl⟩
      have b1 : stI (bk.ts.take j) ≤ 1048576 := by have := List.countP_le_length (p := Tk.idle) (l := bk.ts.take j); simp at this; unfold stI; omega
      have b2 : stR (bk.ts.take j) ≤ 1048576 := by have := List.countP_le_length (p := fun t : Tk => !t.done && !t.idle) (l := bk.ts.take j); simp at this; unfold stR; simp; omega
      have b3 : stD (bk.ts.take j) ≤ 1048576 := by have := List.countP_le_length (p := fun t : Tk => t.done) (l := bk.ts.take j); simp at this; unfold stD; omega
      have b4 : stL (bk.ts.take j) ≤ 1099511627776 := by
        have := stL_le (bk.ts.take j) (fun t ht => hal t (List.mem_of_mem_take ht))
        have h2 : (bk.ts.take j).length ≤ 1048576 := by simp; omega
        have h3 := Nat.mul_le_mul_right 1048576 h2
        omega
      have HI : Hid (∀ o, o = Obj.cells #[.bool bk.ts[j].done, .int .i64 bk.ts[j].gr, .slice la bk.ts[j].live.length lc] 205 → Calls Tryz.prog 97 #[.agg #[.bool bk.ts[j].done, .int .i64 bk.ts[j].gr, .slice la bk.ts[j].live.length lc]] (wr.alloc o) fun e w1 => e = .returned (.bool bk.ts[j].idle) ∧ w1.heap[w.heap.size]? = wr.heap[w.heap.size]? ∧ w1.heap[w.heap.size + 1]? = wr.heap[w.heap.size + 1]? ∧ w1.cell? ⟨wr.heap.size, 2, none⟩ = some (.slice la bk.ts[j].live.length lc) ∧ Below w.heap.size w w1) := by
        rintro o rfl
        refine (idle bk.ts[j] la lc _).mono ?_
        rintro e w1 ⟨rfl, hb1⟩
        have hba : Below wr.heap.size wr (wr.alloc (.cells #[.bool bk.ts[j].done, .int .i64 bk.ts[j].gr, .slice la bk.ts[j].live.length lc] 205)) := (Below.refl _ _).alloc (Nat.le_refl _) _
        have hb2 := hba.trans (hb1.mono (by simp))
        refine ⟨rfl, hb2.block _ (by omega), hb2.block _ hSl, ?_, hb.trans (hb2.mono hsz)⟩
        rw [hb1.cell (p := ⟨wr.heap.size, 2, none⟩) (by simp), World.cell?_alloc_at _ _ _ _ (by simp)]
        rfl
      clear hlv h hal c10 c11 c12 c13 c14 fz
      generalize bk.ts[j] = t at *
      obtain ⟨dn, gr, lv⟩ := t
      simp only at d0 d1 d2 HI HT hll
      have hid : (Tk.mk dn gr lv).idle = (!dn && lv.length == 0) := rfl
      rw [hid] at HI HT
      generalize lv.length = ln at *
      generalize stI (bk.ts.take j) = xI at *
      generalize stR (bk.ts.take j) = xR at *
      generalize stD (bk.ts.take j) = xD at *
      generalize stL (bk.ts.take j) = xL at *
      have fS : ∀ k, wr.frozen? ⟨w.heap.size + 1, k, none⟩ = false := by simp [World.frozen?, hS]
      have s1 : wr.cell? ⟨w.heap.size + 1, 1, none⟩ = some (.int .i64 xI) := by simp [World.cell?, hS]
      have s2 : wr.cell? ⟨w.heap.size + 1, 2, none⟩ = some (.int .i64 xR) := by simp [World.cell?, hS]
      have s3 : wr.cell? ⟨w.heap.size + 1, 3, none⟩ = some (.int .i64 xD) := by simp [World.cell?, hS]
      have s4 : wr.cell? ⟨w.heap.size + 1, 4, none⟩ = some (.int .i64 xL) := by simp [World.cell?, hS]
      cases dn with
      | true =>
        clear HI
        go_wp2
        go_roundw
        case rel =>
          refine ⟨j + 1, by omega, by go_num, (Below.heap_alloc _ _ _ (by simp [World.setCell]; omega)).trans (far2 hR (by omega)), ?_, ((hb.setCell (p := ⟨w.heap.size + 1, 3, none⟩) (by simp) _).setCell (p := ⟨w.heap.size + 1, 4, none⟩) (by simp) _).alloc (by simp [World.setCell]; omega) _⟩
          rw [Below.heap_alloc _ _ (w.heap.size + 1) (by simp [World.setCell]; omega), put2 hS, HT.out.1, HT.out.2.1, HT.out.2.2.1, HT.out.2.2.2]
          simp
        case measure => simp [intOf]; omega
      | false =>
        by_cases hz : ln = 0
        · subst hz
          have hq : ((!false) && (0 : Nat) == 0) = true := rfl
          rw [hq] at HI HT
          go_wp2_with (go_at_call 97; refine (HI.out _ rfl).mono ?_; rintro e w1 ⟨rfl, r1, r2, t2, hb1⟩; rw [hR] at r1; rw [hS] at r2; have q1 : w1.cell? ⟨w.heap.size + 1, 1, none⟩ = some (.int .i64 xI) := (by simp [World.cell?, r2]); have q2 : w1.cell? ⟨w.heap.size + 1, 2, none⟩ = some (.int .i64 xR) := (by simp [World.cell?, r2]); have q4 : w1.cell? ⟨w.heap.size + 1, 4, none⟩ = some (.int .i64 xL) := (by simp [World.cell?, r2]); have qf : ∀ k, w1.frozen? ⟨w.heap.size + 1, k, none⟩ = false := (by simp [World.frozen?, r2]))
          go_roundw
          case rel =>
            refine ⟨j + 1, by omega, by go_num, far2 r1 (by omega), ?_, ((hb1).setCell (p := ⟨w.heap.size + 1, 1, none⟩) (by simp) _).setCell (p := ⟨w.heap.size + 1, 4, none⟩) (by simp) _⟩
            rw [put2 r2, HT.out.1, HT.out.2.1, HT.out.2.2.1, HT.out.2.2.2]
            simp
          case measure => simp [intOf]; omega
        · have hq : ((!false) && ln == 0) = false := by simp [hz]
          rw [hq] at HI HT
          go_wp2_with (go_at_call 97; refine (HI.out _ rfl).mono ?_; rintro e w1 ⟨rfl, r1, r2, t2, hb1⟩; rw [hR] at r1; rw [hS] at r2; have q1 : w1.cell? ⟨w.heap.size + 1, 1, none⟩ = some (.int .i64 xI) := (by simp [World.cell?, r2]); have q2 : w1.cell? ⟨w.heap.size + 1, 2, none⟩ = some (.int .i64 xR) := (by simp [World.cell?, r2]); have q4 : w1.cell? ⟨w.heap.size + 1, 4, none⟩ = some (.int .i64 xL) := (by simp [World.cell?, r2]); have qf : ∀ k, w1.frozen? ⟨w.heap.size + 1, k, none⟩ = false := (by simp [World.frozen?, r2]))
          go_roundw
          case rel =>
            refine ⟨j + 1, by omega, by go_num, far2 r1 (by omega), ?_, ((hb1).setCell (p := ⟨w.heap.size + 1, 2, none⟩) (by simp) _).setCell (p := ⟨w.heap.size + 1, 4, none⟩) (by simp) _⟩
            rw [put2 r2, HT.out.1, HT.out.2.1, HT.out.2.2.1, HT.out.2.2.2]
            simp
          case measure => simp [intOf]; omega
    · obtain rfl : j = bk.ts.length := by omega
      rw [List.take_length] at hS
      have fS : ∀ k, wr.frozen? ⟨w.heap.size + 1, k, none⟩ = false := by simp [World.frozen?, hS]
      have fR : ∀ k, wr.frozen? ⟨w.heap.size, k, none⟩ = false := by simp [World.frozen?, hR]
      have HLE : Hid (stL bk.ts ≤ 1099511627776 ∧ stR bk.ts ≤ 1048576) := by
        refine ⟨?_, ?_⟩
        · have h3 := Nat.mul_le_mul_right 1048576 hl
          have := HLL.out
          omega
        · have := List.countP_le_length (p := fun t : Tk => !t.done && !t.idle) (l := bk.ts)
          unfold stR; omega
      clear h hal HLL c10 c11 c12 c13 c14 fz
      obtain ⟨l1, l2⟩ := HLE.out
      clear HLE
      have s0 : wr.cell? ⟨w.heap.size + 1, 0, none⟩ = some (.int .i64 bk.ph) := by simp [World.cell?, hS]
      have s1 : wr.cell? ⟨w.heap.size + 1, 1, none⟩ = some (.int .i64 (stI bk.ts)) := by simp [World.cell?, hS]
      have s2 : wr.cell? ⟨w.heap.size + 1, 2, none⟩ = some (.int .i64 (stR bk.ts)) := by simp [World.cell?, hS]
      have s3 : wr.cell? ⟨w.heap.size + 1, 3, none⟩ = some (.int .i64 (stD bk.ts)) := by simp [World.cell?, hS]
      have s4 : wr.cell? ⟨w.heap.size + 1, 4, none⟩ = some (.int .i64 (stL bk.ts)) := by simp [World.cell?, hS]
      have s5 : wr.cell? ⟨w.heap.size + 1, 5, none⟩ = some (.int .i64 0) := by simp [World.cell?, hS]
      have s6 : wr.cell? ⟨w.heap.size + 1, 6, none⟩ = some (.int .i64 bk.now) := by simp [World.cell?, hS]
      have s7 : wr.cell? ⟨w.heap.size + 1, 7, none⟩ = some (.bool bk.fl) := by simp [World.cell?, hS]
      have r0 : wr.cell? ⟨w.heap.size, 0, none⟩ = some (.int .i64 0) := by simp [World.cell?, hR]
      have r1 : wr.cell? ⟨w.heap.size, 1, none⟩ = some (.int .i64 0) := by simp [World.cell?, hR]
      have r2 : wr.cell? ⟨w.heap.size, 2, none⟩ = some (.int .i64 0) := by simp [World.cell?, hR]
      have r3 : wr.cell? ⟨w.heap.size, 3, none⟩ = some (.int .i64 0) := by simp [World.cell?, hR]
      have r4 : wr.cell? ⟨w.heap.size, 4, none⟩ = some (.int .i64 0) := by simp [World.cell?, hR]
      have r5 : wr.cell? ⟨w.heap.size, 5, none⟩ = some (.int .i64 0) := by simp [World.cell?, hR]
      have r6 : wr.cell? ⟨w.heap.size, 6, none⟩ = some (.int .i64 0) := by simp [World.cell?, hR]
      have r7 : wr.cell? ⟨w.heap.size, 7, none⟩ = some (.bool false) := by simp [World.cell?, hR]
      go_wp2
      refine bodyPost_ret (v := statV bk) (by simp [results, Tryz.results155, go_sem, statV, r0, r1, r2, r3, r4, r5, r6, r7]) rfl ⟨rfl, ?_⟩
      iterate 9 refine Below.setCell (p := ⟨_, _, none⟩) ?_ (by simp) _
      exact hb
end Go.Proofs.YtibofakbhgmhiabGreatDoor

namespace Go.Proofs.YtibofakbhgmhiabGreatDoor
open Go.RowKit

def Tk.nd (t : Tk) : Bool := !t.done
theorem ndone (t : Tk) (a : Option Addr) (c : Nat) (w : World) : Calls Tryz.prog 172 #[.agg #[.bool t.done, .int .i64 t.gr, .slice a t.live.length c]] w fun e w' => e = .returned (.bool t.nd) ∧ Below w.heap.size w w' := by
  have hb : Below w.heap.size w (w.alloc (.cells #[.bool t.done, .int .i64 t.gr, .slice a t.live.length c] 205)) := (Below.refl _ _).alloc (Nat.le_refl _) _
  obtain ⟨d, g, l⟩ := t
  simp only at hb ⊢
  generalize l.length = n at *
  go_enter Tryz.func172, Tryz.ntmps172
  go_wp2
  go_ret
  exact ⟨rfl, hb⟩

set_option maxHeartbeats 1000000 in
set_option maxRecDepth 100000 in
theorem idxND {B : Nat} {w : World} {tv : Value} {ts : List Tk} {vs : List Value} (h : TsAt B w tv ts vs) (hl : ts.length ≤ 1048576) :
    Calls Tryz.prog 96 #[tv, .func (.func 172) #[] #[]] w fun e w' => ((∃ k, ∃ hk : k < ts.length, e = .returned (.int .i64 k) ∧ ts[k].nd = true ∧ ∀ j (hj : j < k), (ts[j]'(by omega)).nd = false) ∨ (e = .returned (.int .i64 (-1)) ∧ ∀ j (hj : j < ts.length), ts[j].nd = false)) ∧ Below w.heap.size w w' := by
  obtain ⟨a, c, rfl⟩ := h.slice
  go_enter Tryz.func96, Tryz.ntmps96
  go_wp2_with fail
  go_loopw [8] (fun jv wr => ∃ j : Nat, j ≤ ts.length ∧ jv = .int .i64 j ∧ (∀ i (hi : i < j) (hl : i < ts.length), ts[i].nd = false) ∧ Below w.heap.size w wr) (fun jv _ => ts.length - (intOf jv).toNat)
  case atStart => exact ⟨0, Nat.zero_le _, rfl, fun i hi => absurd hi (Nat.not_lt_zero _), Below.refl _ _⟩
  case round =>
    obtain ⟨j, hj, rfl, hno, hb⟩ := hrel
    by_cases hjl : j < ts.length
    · obtain ⟨g, c', e⟩ := h.at0 j hjl
      simp only [Value.slice.injEq] at e
      obtain ⟨rfl, _, rfl⟩ := e
      obtain ⟨d0, d1, d2⟩ := (h.below hb).cells j hjl
      obtain ⟨la, lc, hlv⟩ := h.lv j hjl (by rw [h.len]; exact hjl)
      rw [hlv] at d2
      have HI : Hid (Calls Tryz.prog 172 #[.agg #[.bool ts[j].done, .int .i64 ts[j].gr, .slice la ts[j].live.length lc]] wr fun e w' => e = .returned (.bool ts[j].nd) ∧ Below w.heap.size w w') := by
        refine (ndone ts[j] la lc wr).mono ?_
        rintro e w1 ⟨rfl, hb1⟩
        exact ⟨rfl, hb.trans (hb1.mono hb.size)⟩
      have HN : Hid (∀ i (hi : i < j) (hl : i < ts.length), ts[i].nd = false) := hno
      have HJ : Hid (ts[j].nd = ts[j].nd) := rfl
      clear hlv h hno
      obtain ⟨x, hx⟩ : ∃ x, x = ts[j] := ⟨_, rfl⟩
      rw [← hx] at d0 d1 d2 HI
      have HX : Hid (x = ts[j]) := hx
      clear hx HJ
      obtain ⟨dn, gr, lv⟩ := x
      simp only at d0 d1 d2 HI
      generalize lv.length = ln at *
      cases hid : (Tk.mk dn gr lv).nd with
      | true =>
        rw [hid] at HI
        go_wp2_with (go_at_call 172; refine HI.out.mono ?_; rintro e w1 ⟨rfl, hb1⟩)
        go_ret
        exact ⟨.inl ⟨j, hjl, rfl, by rw [← HX.out]; exact hid, fun i hi => HN.out i hi (by omega)⟩, hb1⟩
      | false =>
        rw [hid] at HI
        go_wp2_with (go_at_call 172; refine HI.out.mono ?_; rintro e w1 ⟨rfl, hb1⟩)
        go_roundw
        case rel =>
          refine ⟨j + 1, by omega, by go_num, fun i hi hl => ?_, hb1⟩
          by_cases e : i < j
          · exact HN.out i e hl
          · obtain rfl : i = j := by omega
            rw [← HX.out]; exact hid
        case measure => simp [intOf]; omega
    · obtain rfl : j = ts.length := by omega
      clear h
      go_wp2
      go_ret
      exact ⟨.inr ⟨rfl, fun i hi => hno i hi hi⟩, hb⟩


theorem hasND {B : Nat} {w : World} {tv : Value} {ts : List Tk} {vs : List Value} (h : TsAt B w tv ts vs) (hl : ts.length ≤ 1048576) :
    Calls Tryz.prog 171 #[tv, .func (.func 172) #[] #[]] w fun e w' => e = .returned (.bool (ts.any Tk.nd)) ∧ Below w.heap.size w w' := by
  have HI : Hid (Calls Tryz.prog 96 #[tv, .func (.func 172) #[] #[]] w fun e w' => (∃ n : Int, e = .returned (.int .i64 n) ∧ decide (0 ≤ n) = ts.any Tk.nd) ∧ Below w.heap.size w w') := by
    refine (idxND h hl).mono ?_
    rintro e w1 ⟨hr, hb⟩
    refine ⟨?_, hb⟩
    rcases hr with ⟨k, hk, rfl, h1, _⟩ | ⟨rfl, h1⟩
    · refine ⟨k, rfl, ?_⟩
      have : ts.any Tk.nd = true := List.any_eq_true.2 ⟨ts[k], List.getElem_mem hk, h1⟩
      rw [this]; simp
    · refine ⟨-1, rfl, ?_⟩
      have : ts.any Tk.nd = false := by
        rw [List.any_eq_false]
        intro t ht
        obtain ⟨j, hj, rfl⟩ := List.getElem_of_mem ht
        simp [h1 j hj]
      rw [this]; rfl
  clear h
  go_enter Tryz.func171, Tryz.ntmps171
  go_wp2_with (go_at_call 96; refine HI.out.mono ?_; rintro e w1 ⟨⟨n, rfl, hn⟩, hb⟩)
  go_ret
  exact ⟨by rw [← hn]; rfl, hb⟩
end Go.Proofs.YtibofakbhgmhiabGreatDoor

namespace Go.Proofs.YtibofakbhgmhiabGreatDoor
open Go.RowKit
theorem Tryz.infoTask : (Tryz.prog.info? 205).map (fun i => (i.zero, i.size, i.bytes)) = some (some (.agg #[.bool false, .int .i64 0, .slice none 0 0]), 3, 40) := by kernel_rfl

/-- a fresh task -/
def fresh : Tk := ⟨false, 0, []⟩
theorem made_tasks (m : Nat) : (madeCells (Value.agg #[.bool false, .int .i64 0, .slice none 0 0]).cells (m * 3)).toList = tkc (List.replicate m fresh) (List.replicate m (.slice none 0 0)) := by
  have hl := tkc_length (List.replicate m fresh) (List.replicate m (Value.slice none 0 0)) (by simp)
  apply List.ext_getElem?
  intro i
  by_cases hi : i < m * 3
  · have hk : i / 3 < m := by omega
    have a := tkc_at (List.replicate m fresh) (List.replicate m (Value.slice none 0 0)) (i / 3) (by simpa using hk) (by simpa using hk)
    simp only [List.getElem_replicate] at a
    have e1 : (madeCells (Value.agg #[.bool false, .int .i64 0, .slice none 0 0]).cells (m * 3)).toList[i]? = some (#[Value.bool false, .int .i64 0, .slice none 0 0][i % 3]!) := by
      simp [madeCells, Value.cells, hi]
    rw [e1]
    have hm : i % 3 = 0 ∨ i % 3 = 1 ∨ i % 3 = 2 := by omega
    rcases hm with hm | hm | hm
    · have ei : i / 3 * 3 = i := by omega
      rw [ei] at a
      rw [hm, a.1]; rfl
    · have ei : i / 3 * 3 + 1 = i := by omega
      rw [ei] at a
      rw [hm, a.2.1]; rfl
    · have ei : i / 3 * 3 + 2 = i := by omega
      rw [ei] at a
      rw [hm, a.2.2]; rfl
  · rw [List.getElem?_eq_none (by simp [madeCells]; omega), List.getElem?_eq_none (by rw [hl]; simp; omega)]
theorem fresh_at {w3 : World} {B : Nat} (m : Nat) {g : Nat} (ho : w3.ownsRow B 205 3 (.slice (some ⟨g, 0, none⟩) m m) m (madeCells (Value.agg #[.bool false, .int .i64 0, .slice none 0 0]).cells (m * 3)).toList) : TsAt B w3 (.slice (some ⟨g, 0, none⟩) m m) (List.replicate m fresh) (List.replicate m (.slice none 0 0)) := by
  refine ⟨?_, by simp, fun k hk hv => ?_, fun i j hi hj _ => .inl ?_⟩
  · rw [made_tasks] at ho; simpa using ho
  · simp only [List.getElem_replicate, fresh]; exact World.ownsRow_nil _ _ _ _
  · simp [Value.ownBlock]

/-- the phase ends where all its tasks are done -/
def Bk.ended (bk : Bk) (R : Nat) : Bk := if bk.ts.any Tk.nd then bk else if bk.ph = 1 then ⟨2, List.replicate R fresh, bk.gs, bk.now, bk.fl⟩ else ⟨3, [], bk.gs, bk.now, bk.fl⟩
theorem TbAt.setPh {B Tb : Nat} {st : Int} {cf : Cf} {w : World} {bk : Bk} {tv : Value} {vs : List Value} (h : TbAt B Tb st cf w bk tv vs) (x : Nat) : TbAt B Tb st cf (w.setCell ⟨Tb, 10, none⟩ (.int .i64 x)) ⟨x, bk.ts, bk.gs, bk.now, bk.fl⟩ tv vs := by
  have b := h.blk
  refine ⟨?_, h.ts.other h.blk (by decide) (by decide) _⟩
  simp only [World.setCell, Array.getElem?_modify, if_true, b]
  simp
theorem TbAt.setTs {B Tb : Nat} {st : Int} {cf : Cf} {w : World} {bk : Bk} {tv : Value} {vs : List Value} (h : TbAt B Tb st cf w bk tv vs) {tv' : Value} {ts' : List Tk} {vs' : List Value} (hT : TsAt B w tv' ts' vs') : TbAt B Tb st cf (w.setCell ⟨Tb, 11, none⟩ tv') ⟨bk.ph, ts', bk.gs, bk.now, bk.fl⟩ tv' vs' := by
  have b := h.blk
  refine ⟨?_, hT.other h.blk (by decide) (by decide) _⟩
  simp only [World.setCell, Array.getElem?_modify, if_true, b]
  simp

set_option maxHeartbeats 1000000 in
set_option maxRecDepth 100000 in
theorem endPhase {B Tb : Nat} {st : Int} {cf : Cf} {w : World} {bk : Bk} {tv : Value} {vs : List Value} (h : TbAt B Tb st cf w bk tv vs) (hB : B ≤ Tb) (hl : bk.ts.length ≤ 1048576) (R : Nat) (hR : cf.reds = (R : Int)) (hR2 : R ≤ 16) :
    Calls Tryz.prog 101 #[.pointer (some ⟨Tb, 2, none⟩)] w fun e w' => e = .returned (.tuple #[]) ∧ (∃ tv' vs', TbAt B Tb st cf w' (bk.ended R) tv' vs') ∧ Below B w w' ∧ Tf w w' := by
  have hTl := lt_of_block h.blk
  obtain ⟨i0, hi, hz0, hz1, hz2⟩ := info_parts Tryz.infoTask
  obtain ⟨c10, c11, c12, c13, c14, fz⟩ := h.cells
  have c3 : w.cell? ⟨Tb, 3, none⟩ = some (.int .i64 R) := by rw [← hR]; simp [World.cell?, h.blk]
  have HH : Hid (Calls Tryz.prog 171 #[tv, .func (.func 172) #[] #[]] w fun e w' => e = .returned (.bool (bk.ts.any Tk.nd)) ∧ Below w.heap.size w w') := hasND h.ts hl
  cases hany : bk.ts.any Tk.nd with
  | true =>
    rw [hany] at HH
    have eb : bk.ended R = bk := by simp [Bk.ended, hany]
    rw [eb]
    have HB : Hid (∀ w1, Below w.heap.size w w1 → (∃ tv' vs', TbAt B Tb st cf w1 bk tv' vs') ∧ Below B w w1 ∧ Tf w w1) := fun w1 hb1 => ⟨⟨tv, vs, h.below hb1⟩, hb1.mono (by omega), Tf.of_below hb1⟩
    clear h
    go_enter Tryz.func101, Tryz.ntmps101
    go_wp2_with (go_at_call 171; refine HH.out.mono ?_; rintro e w1 ⟨rfl, hb1⟩)
    first | go_end0 | refine bodyPost_ret (results_none rfl _ _ _) rfl ?_
    exact ⟨rfl, HB.out w1 hb1⟩
  | false =>
    rw [hany] at HH
    have HC : Hid (∀ w1, Below w.heap.size w w1 → TbAt B Tb st cf w1 bk tv vs ∧ w1.cell? ⟨Tb, 10, none⟩ = some (.int .i64 bk.ph) ∧ w1.cell? ⟨Tb, 11, none⟩ = some tv ∧ w1.cell? ⟨Tb, 3, none⟩ = some (.int .i64 R) ∧ ∀ j, w1.frozen? ⟨Tb, j, none⟩ = false) := fun w1 hb1 => by
      have h1 := h.below hb1
      obtain ⟨x10, x11, x12, x13, x14, xf⟩ := h1.cells
      exact ⟨h1, x10, x11, (hb1.cell (p := ⟨Tb, 3, none⟩) hTl).trans c3, xf⟩
    by_cases hp : bk.ph = 1
    · have eb : bk.ended R = ⟨2, List.replicate R fresh, bk.gs, bk.now, bk.fl⟩ := by simp [Bk.ended, hany, hp]
      rw [eb]
      have HMK : Hid (∀ w1 : World, Below w.heap.size w w1 → ∃ w3, (Instr.makeSlice 114 (.int .i64 (R : Int)) (.int .i64 (R : Int))).run Tryz.prog (w1.setCell ⟨Tb, 10, none⟩ (.int .i64 2)) = .ok (.slice (some ⟨w1.heap.size, 0, none⟩) R R) w3 ∧ w3.cell? ⟨Tb, 11, none⟩ = some tv ∧ w3.frozen? ⟨Tb, 11, none⟩ = false ∧
          (∃ tv' vs', TbAt B Tb st cf (w3.setCell ⟨Tb, 11, none⟩ (.slice (some ⟨w1.heap.size, 0, none⟩) R R)) ⟨2, List.replicate R fresh, bk.gs, bk.now, bk.fl⟩ tv' vs') ∧ Below B w (w3.setCell ⟨Tb, 11, none⟩ (.slice (some ⟨w1.heap.size, 0, none⟩) R R)) ∧ Tf w (w3.setCell ⟨Tb, 11, none⟩ (.slice (some ⟨w1.heap.size, 0, none⟩) R R))) := by
        intro w1 hb1
        have h1 := (h.below hb1).setPh 2
        have hs1 := hb1.size
        have hsw : (w1.setCell ⟨Tb, 10, none⟩ (.int .i64 2)).heap.size = w1.heap.size := by simp [World.setCell]
        obtain ⟨w3, hrun, hown3, hg3⟩ := run_make_full (P := Tryz.prog) (w1.setCell ⟨Tb, 10, none⟩ (.int .i64 2)) B 114 205 i0 (.agg #[.bool false, .int .i64 0, .slice none 0 0]) 3 Tryz.underlying114 hi hz0 hz1 .i64 .i64 R (by rw [hz2]; omega) (by unfold maxLen; omega) (by rw [hsw]; omega)
        have hb3 : Below (w1.setCell ⟨Tb, 10, none⟩ (.int .i64 2)).heap.size (w1.setCell ⟨Tb, 10, none⟩ (.int .i64 2)) w3 := (Below.refl _ _).grown hg3 (Nat.le_refl _) (fun k hk => by cases hk)
        have h3 := h1.below hb3
        rw [hsw] at hown3 hrun
        have hT3 := fresh_at R hown3
        have h4 := h3.setTs hT3
        obtain ⟨_, x11, _, _, _, xf⟩ := h3.cells
        have hbB : Below B w w3 := ((hb1.mono (by omega)).setCell (p := ⟨Tb, 10, none⟩) hB _).trans (hb3.mono (by rw [hsw]; omega))
        have htf : Tf w w3 := ((Tf.of_below hb1).setCell (h.below hb1).blk (.inl rfl) _).trans (Tf.of_below hb3)
        exact ⟨w3, hrun, x11, xf 11, ⟨_, _, h4⟩, hbB.setCell (p := ⟨Tb, 11, none⟩) hB _, htf.setCell h3.blk (.inl rfl) _⟩
      clear h c10 c12 c13 c14 fz c3
      go_enter Tryz.func101, Tryz.ntmps101
      go_wp2_with (go_at_call 171; refine HH.out.mono ?_; rintro e w1 ⟨rfl, hb1⟩; obtain ⟨h1, x10, x11, x3, xf⟩ := HC.out w1 hb1; rw [hp] at x10; obtain ⟨w3, hrun, y11, yf, hfin⟩ := HMK.out w1 hb1; clear h1)
      first | go_end0 | refine bodyPost_ret (results_none rfl _ _ _) rfl ?_
      exact ⟨rfl, hfin⟩
    · have eb : bk.ended R = ⟨3, [], bk.gs, bk.now, bk.fl⟩ := by simp [Bk.ended, hany, hp]
      rw [eb]
      have hpb : ((bk.ph : Int) == 1) = false := by simp; omega
      have HF : Hid (∀ w1 : World, Below w.heap.size w w1 → (∃ tv' vs', TbAt B Tb st cf ((w1.setCell ⟨Tb, 10, none⟩ (.int .i64 3)).setCell ⟨Tb, 11, none⟩ (.slice none 0 0)) ⟨3, [], bk.gs, bk.now, bk.fl⟩ tv' vs') ∧ Below B w ((w1.setCell ⟨Tb, 10, none⟩ (.int .i64 3)).setCell ⟨Tb, 11, none⟩ (.slice none 0 0)) ∧ Tf w ((w1.setCell ⟨Tb, 10, none⟩ (.int .i64 3)).setCell ⟨Tb, 11, none⟩ (.slice none 0 0))) := by
        intro w1 hb1
        have h1 := (h.below hb1).setPh 3
        have hT : TsAt B (w1.setCell ⟨Tb, 10, none⟩ (.int .i64 3)) (.slice none 0 0) [] [] := ⟨World.ownsRow_nil _ _ _ _, rfl, fun k hk => absurd hk (Nat.not_lt_zero _), fun i j hi => absurd hi (Nat.not_lt_zero _)⟩
        have h2 := h1.setTs hT
        exact ⟨⟨_, _, h2⟩, ((hb1.mono (by omega)).setCell (p := ⟨Tb, 10, none⟩) hB _).setCell (p := ⟨Tb, 11, none⟩) hB _, ((Tf.of_below hb1).setCell (h.below hb1).blk (.inl rfl) _).setCell h1.blk (.inl rfl) _⟩
      clear h c10 c12 c13 c14 fz c3
      go_enter Tryz.func101, Tryz.ntmps101
      go_wp2_with (go_at_call 171; refine HH.out.mono ?_; rintro e w1 ⟨rfl, hb1⟩; obtain ⟨h1, x10, x11, x3, xf⟩ := HC.out w1 hb1; clear h1)
      first | go_end0 | refine bodyPost_ret (results_none rfl _ _ _) rfl ?_
      exact ⟨rfl, HF.out w1 hb1⟩
end Go.Proofs.YtibofakbhgmhiabGreatDoor

namespace Go.Proofs.YtibofakbhgmhiabGreatDoor
open Go.RowKit

/-- task k is done -/
def Bk.doneAt (bk : Bk) (k : Nat) (t : Tk) : Bk := ⟨bk.ph, bk.ts.set k ⟨true, t.gr, []⟩, bk.gs, bk.now, bk.fl⟩

theorem done_at {B Tb : Nat} {st : Int} {cf : Cf} {w w0 : World} {bk : Bk} {g n c : Nat} {vs : List Value} (h : TbAt B Tb st cf w bk (.slice (some ⟨g, 0, none⟩) n c) vs) (hb : Below B w0 w) (ht : Tf w0 w) (k : Nat) (hk : k < bk.ts.length) :
    (∃ vs', TbAt B Tb st cf ((w.setCell ⟨g, k * 3, none⟩ (.bool true)).setCell ⟨g, k * 3 + 2, none⟩ (.slice none 0 0)) (bk.doneAt k bk.ts[k]) (.slice (some ⟨g, 0, none⟩) n c) vs') ∧ Below B w0 ((w.setCell ⟨g, k * 3, none⟩ (.bool true)).setCell ⟨g, k * 3 + 2, none⟩ (.slice none 0 0)) ∧ Tf w0 ((w.setCell ⟨g, k * 3, none⟩ (.bool true)).setCell ⟨g, k * 3 + 2, none⟩ (.slice none 0 0)) := by
  obtain ⟨cur, hg⟩ := h.ts.blk
  have hgB : B ≤ g := (h.ts.row.lt g rfl).1
  have hne := h.apart.1
  have h1 := h.ts.putDone k hk true
  obtain ⟨cur1, hg1⟩ := h1.blk
  have hk1 : k < (bk.ts.set k ⟨true, bk.ts[k].gr, bk.ts[k].live⟩).length := by simpa using hk
  have h2 := h1.putLv k hk1 [] (.slice none 0 0) (World.ownsRow_nil _ _ _ _) (fun j hj _ => .inl rfl)
  refine ⟨⟨vs.set k (.slice none 0 0), blk_setCell (blk_setCell h.blk hne) hne, ?_⟩, (hb.setCell (p := ⟨g, k * 3, none⟩) hgB _).setCell (p := ⟨g, k * 3 + 2, none⟩) hgB _, (ht.setCell hg (.inr (.inl rfl)) _).setCell hg1 (.inr (.inl rfl)) _⟩
  have eb : (bk.doneAt k bk.ts[k]).ts = (bk.ts.set k ⟨true, bk.ts[k].gr, bk.ts[k].live⟩).set k ⟨((bk.ts.set k ⟨true, bk.ts[k].gr, bk.ts[k].live⟩)[k]).done, ((bk.ts.set k ⟨true, bk.ts[k].gr, bk.ts[k].live⟩)[k]).gr, []⟩ := by simp [Bk.doneAt]
  rw [eb]
  exact h2

set_option maxHeartbeats 2000000 in
set_option maxRecDepth 100000 in
theorem commit {B Tb : Nat} {st : Int} {cf : Cf} {w : World} {bk : Bk} {a : Option Addr} {c : Nat} {vs : List Value} (h : TbAt B Tb st cf w bk (.slice a bk.ts.length c) vs) (hB : B ≤ Tb) (id : Int) (p5 p6 : Addr) (h5 : w.cell? ⟨5, 0, none⟩ = some (.iface 513 (.pointer (some p5)))) (h6 : w.cell? ⟨6, 0, none⟩ = some (.iface 513 (.pointer (some p6)))) (hl : bk.ts.length ≤ 1048576) (hal : ∀ t ∈ bk.ts, t.live.length ≤ 1048576) (R : Nat) (hR : cf.reds = (R : Int)) (hR2 : R ≤ 16) :
    Calls Tryz.prog 54 #[.pointer (some ⟨Tb, 2, none⟩), .int .i64 id] w fun e w' => (bk.no id p5 p6 e ∧ Below w.heap.size w w') ∨
      ((1 ≤ id ∧ id ≤ bk.gs) ∧ e = .returned .nilIface ∧ ∃ k i, bk.has id k i ∧ ∃ hk : k < bk.ts.length, (∃ tv' vs', TbAt B Tb st cf w' ((bk.doneAt k bk.ts[k]).ended R) tv' vs') ∧ Below B w w' ∧ Tf w w') := by
  have HF : Hid (Calls Tryz.prog 100 #[.pointer (some ⟨Tb, 2, none⟩), .int .i64 id] w _) := findS h id p5 p6 h5 h6 hl hal
  have hTl := lt_of_block h.blk
  have HQ : Hid (∀ w1 g k i, Below w.heap.size w w1 → a = some ⟨g, 0, none⟩ → bk.has id k i → (∃ v, w1.cell? ⟨g, k * 3, none⟩ = some v) ∧ (∀ j, w1.frozen? ⟨g, j, none⟩ = false) ∧ (∃ v, (w1.setCell ⟨g, k * 3, none⟩ (.bool true)).cell? ⟨g, k * 3 + 2, none⟩ = some v ∧ w1.cell? ⟨g, k * 3 + 2, none⟩ = some v) ∧ (w1.setCell ⟨g, k * 3, none⟩ (.bool true)).frozen? ⟨g, k * 3 + 2, none⟩ = false ∧
      Calls Tryz.prog 101 #[.pointer (some ⟨Tb, 2, none⟩)] ((w1.setCell ⟨g, k * 3, none⟩ (.bool true)).setCell ⟨g, k * 3 + 2, none⟩ (.slice none 0 0)) fun e w' => e = .returned (.tuple #[]) ∧ ∃ hk : k < bk.ts.length, (∃ tv' vs', TbAt B Tb st cf w' ((bk.doneAt k bk.ts[k]).ended R) tv' vs') ∧ Below B w w' ∧ Tf w w') := by
    rintro w1 g k i hb1 rfl ⟨hk, hi, hid⟩
    have h1 := h.below hb1
    obtain ⟨d0, d1, d2⟩ := h1.ts.cells k hk
    obtain ⟨cur, hg⟩ := h1.ts.blk
    obtain ⟨⟨vs', h2⟩, hb2, ht2⟩ := done_at h1 (hb1.mono (by omega)) (Tf.of_below hb1) k hk
    refine ⟨⟨_, d0⟩, fun j => by simp [World.frozen?, hg], ⟨_, (World.cell?_setCell_other _ _ _ _ (by simp)).trans d2, d2⟩, ?_, ?_⟩
    · obtain ⟨cur2, hg2⟩ := (h1.ts.putDone k hk true).blk
      simp [World.frozen?, hg2]
    refine (endPhase h2 hB (by simpa [Bk.doneAt] using hl) R hR hR2).mono ?_
    rintro e w3 ⟨rfl, h3, hb3, ht3⟩
    exact ⟨rfl, hk, h3, hb2.trans hb3, ht2.trans ht3⟩
  have HG : Hid (Calls Tryz.prog 100 #[.pointer (some ⟨Tb, 2, none⟩), .int .i64 id] w fun e w1 => (∃ p, e = .returned (.tuple #[.pointer none, .int .i64 0, .iface 513 (.pointer (some p))]) ∧ bk.no id p5 p6 (.returned (.iface 513 (.pointer (some p)))) ∧ Below w.heap.size w w1) ∨ (∃ g k i v0 v2, e = .returned (.tuple #[.pointer (some ⟨g, k * 3, none⟩), .int .i64 (i : Nat), .nilIface]) ∧ (1 ≤ id ∧ id ≤ bk.gs) ∧ bk.has id k i ∧ w1.cell? ⟨g, k * 3, none⟩ = some v0 ∧ (∀ j, w1.frozen? ⟨g, j, none⟩ = false) ∧ (w1.setCell ⟨g, k * 3, none⟩ (.bool true)).cell? ⟨g, k * 3 + 2, none⟩ = some v2 ∧ w1.cell? ⟨g, k * 3 + 2, none⟩ = some v2 ∧ (w1.setCell ⟨g, k * 3, none⟩ (.bool true)).frozen? ⟨g, k * 3 + 2, none⟩ = false ∧
      Calls Tryz.prog 101 #[.pointer (some ⟨Tb, 2, none⟩)] ((w1.setCell ⟨g, k * 3, none⟩ (.bool true)).setCell ⟨g, k * 3 + 2, none⟩ (.slice none 0 0)) fun e w' => e = .returned (.tuple #[]) ∧ ∃ hk : k < bk.ts.length, (∃ tv' vs', TbAt B Tb st cf w' ((bk.doneAt k bk.ts[k]).ended R) tv' vs') ∧ Below B w w' ∧ Tf w w')) := by
    refine HF.out.mono ?_
    rintro e w1 ⟨hr, hb1⟩
    rcases hr with ⟨p, hno, rfl⟩ | ⟨hin, g, k, i, hag, hha, rfl⟩
    · exact .inl ⟨p, rfl, hno, hb1⟩
    · obtain ⟨⟨v0, q0⟩, qf, ⟨v2, q2, q2'⟩, qf2, q3⟩ := HQ.out w1 g k i hb1 hag hha
      exact .inr ⟨g, k, i, v0, v2, rfl, hin, hha, q0, qf, q2, q2', qf2, q3⟩
  clear h hal h5 h6 HF HQ
  go_enter Tryz.func54, Tryz.ntmps54
  go_wp2_with (go_at_call 100; refine HG.out.mono ?_; rintro e w1 (⟨p, rfl, hno, hb1⟩ | ⟨g, k, i, v0, v2, rfl, hin, hha, q0, qf, q2, q2', qf2, q3⟩))
  · go_ret
    exact .inl ⟨hno, hb1⟩
  · have HE : Hid (Calls Tryz.prog 101 _ _ _) := q3
    have HHA : Hid (bk.has id k i) := hha
    have HIN : Hid (1 ≤ id ∧ id ≤ bk.gs) := hin
    clear q3 hha hin
    go_wp2_with (go_at_call 101; refine HE.out.mono ?_; rintro e w3 ⟨rfl, hk, hfin⟩)
    go_ret
    exact .inr ⟨HIN.out, rfl, k, i, HHA.out, hk, hfin⟩
end Go.Proofs.YtibofakbhgmhiabGreatDoor

namespace Go.Proofs.YtibofakbhgmhiabGreatDoor
open Go.RowKit

abbrev noGrant (p : Addr) : Ending := .returned (.tuple #[.agg #[.int .i64 0, .int .i64 0, .int .i64 0, .bool false], .iface 513 (.pointer (some p))])
/-- nothing is granted -/
def Bk.reqNo (bk : Bk) (p7 p8 p9 : Addr) (e : Ending) : Prop :=
  (bk.fl = true ∧ e = noGrant p9) ∨ (bk.fl = false ∧ bk.ph = 3 ∧ e = noGrant p8) ∨ (bk.fl = false ∧ bk.ph ≠ 3 ∧ (∀ j (hj : j < bk.ts.length), bk.ts[j].idle = false) ∧ e = noGrant p7)
/-- an attempt at task k is granted -/
def Bk.reqOk (bk : Bk) (cf : Cf) (k : Nat) (b : Bool) (e : Ending) : Prop :=
  bk.fl = false ∧ bk.ph ≠ 3 ∧ e = .returned (.tuple #[.agg #[.int .i64 ((bk.gs : Int) + 1), .int .i64 k, .int .i64 bk.ph, .bool b], .nilIface]) ∧
  ((b = false ∧ ∃ hk : k < bk.ts.length, bk.ts[k].idle = true) ∨ (b = true ∧ (∀ j (hj : j < bk.ts.length), bk.ts[j].idle = false) ∧ ∃ hk : k < bk.ts.length, bk.ts[k].mayB cf = true))

theorem reqGrant {B Tb : Nat} {st : Int} {cf : Cf} {w w1 : World} {bk : Bk} {tv : Value} {vs : List Value} (h : TbAt B Tb st cf w1 bk tv vs) (hB : B ≤ Tb) (hB2 : B ≤ w.heap.size) (k : Nat) (hk : k < bk.ts.length) (b : Bool) (h1 : bk.gs ≤ 1048576) (h2 : ∀ t ∈ bk.ts, t.gr ≤ 1048576) (h3 : ∀ t ∈ bk.ts, t.live.length ≤ 1048576) (hb : Below B w w1) (ht : Tf w w1) (hr : w1.heap[w.heap.size]? = some (.cells #[.int .i64 0, .int .i64 0, .int .i64 0, .bool false] 50 (0, 0))) :
    Calls Tryz.prog 98 #[.pointer (some ⟨Tb, 2, none⟩), .int .i64 k, .bool b] w1 fun e w2 => e = .returned (.agg #[.int .i64 ((bk.gs : Int) + 1), .int .i64 k, .int .i64 bk.ph, .bool b]) ∧
      (w2.cell? ⟨w.heap.size, 0, none⟩ = some (.int .i64 0) ∧ w2.cell? ⟨w.heap.size, 1, none⟩ = some (.int .i64 0) ∧ w2.cell? ⟨w.heap.size, 2, none⟩ = some (.int .i64 0) ∧ w2.cell? ⟨w.heap.size, 3, none⟩ = some (.bool false)) ∧ (∀ j, w2.frozen? ⟨w.heap.size, j, none⟩ = false) ∧
      ∀ a0 a1 a2 a3, (∃ tv' vs', TbAt B Tb st cf ((((w2.setCell ⟨w.heap.size, 0, none⟩ a0).setCell ⟨w.heap.size, 1, none⟩ a1).setCell ⟨w.heap.size, 2, none⟩ a2).setCell ⟨w.heap.size, 3, none⟩ a3) (bk.granted k bk.ts[k]) tv' vs') ∧ Below B w ((((w2.setCell ⟨w.heap.size, 0, none⟩ a0).setCell ⟨w.heap.size, 1, none⟩ a1).setCell ⟨w.heap.size, 2, none⟩ a2).setCell ⟨w.heap.size, 3, none⟩ a3) ∧ Tf w ((((w2.setCell ⟨w.heap.size, 0, none⟩ a0).setCell ⟨w.heap.size, 1, none⟩ a1).setCell ⟨w.heap.size, 2, none⟩ a2).setCell ⟨w.heap.size, 3, none⟩ a3) := by
  obtain ⟨g, c, rfl⟩ := h.ts.at0 k hk
  refine (grant h hB k hk b h1 (h2 _ (List.getElem_mem hk)) (h3 _ (List.getElem_mem hk))).mono ?_
  rintro e w2 ⟨rfl, hT, hb2, ht2⟩
  have hr2 := ht2.block _ _ _ _ hr (by decide) (by decide) (by decide)
  refine ⟨rfl, by simp [World.cell?, hr2], by simp [World.frozen?, hr2], fun a0 a1 a2 a3 => ?_⟩
  obtain ⟨⟨vs', f1⟩, f2, f3⟩ := grant_end hr2 hT (hb.trans hb2) (ht.trans ht2) hB2 a0 a1 a2 a3
  exact ⟨⟨_, vs', f1⟩, f2, f3⟩

set_option maxHeartbeats 2000000 in
set_option maxRecDepth 100000 in
theorem request {B Tb : Nat} {st : Int} {cf : Cf} {w : World} {bk : Bk} {tv : Value} {vs : List Value} (h : TbAt B Tb st cf w bk tv vs) (hB : B ≤ Tb) (p7 p8 p9 : Addr) (e7 : w.cell? ⟨7, 0, none⟩ = some (.iface 513 (.pointer (some p7)))) (e8 : w.cell? ⟨8, 0, none⟩ = some (.iface 513 (.pointer (some p8)))) (e9 : w.cell? ⟨9, 0, none⟩ = some (.iface 513 (.pointer (some p9)))) (hl : bk.ts.length ≤ 1048576) (h1 : bk.gs ≤ 1048576) (h2 : ∀ t ∈ bk.ts, t.gr ≤ 1048576) (h3 : ∀ t ∈ bk.ts, t.live.length ≤ 1048576) :
    Calls Tryz.prog 53 #[.pointer (some ⟨Tb, 2, none⟩)] w fun e w' => (bk.reqNo p7 p8 p9 e ∧ (∃ tv' vs', TbAt B Tb st cf w' bk tv' vs') ∧ Below B w w' ∧ Tf w w') ∨ (∃ k b, bk.reqOk cf k b e ∧ ∃ hk : k < bk.ts.length, (∃ tv' vs', TbAt B Tb st cf w' (bk.granted k bk.ts[k]) tv' vs') ∧ Below B w w' ∧ Tf w w') := by
  have hTl := lt_of_block h.blk
  have hb0 : Below w.heap.size w (w.alloc (.cells #[.int .i64 0, .int .i64 0, .int .i64 0, .bool false] 50)) := (Below.refl _ _).alloc (Nat.le_refl _) _
  have hr0 : (w.alloc (.cells #[.int .i64 0, .int .i64 0, .int .i64 0, .bool false] 50)).heap[w.heap.size]? = some (.cells #[.int .i64 0, .int .i64 0, .int .i64 0, .bool false] 50 (0, 0)) := alloc_at _ _
  have hT0 := h.below hb0
  obtain ⟨c10, c11, c12, c13, c14, fz⟩ := hT0.cells
  have u7 := (World.cell?_alloc_lt w (.cells #[.int .i64 0, .int .i64 0, .int .i64 0, .bool false] 50) _ (hp_lt e7)).trans e7
  have u8 := (World.cell?_alloc_lt w (.cells #[.int .i64 0, .int .i64 0, .int .i64 0, .bool false] 50) _ (hp_lt e8)).trans e8
  have u9 := (World.cell?_alloc_lt w (.cells #[.int .i64 0, .int .i64 0, .int .i64 0, .bool false] 50) _ (hp_lt e9)).trans e9
  -- the end where nothing is granted: the answer's block is written with noughts
  have HNO : Hid (∀ w1, Below (w.alloc (.cells #[.int .i64 0, .int .i64 0, .int .i64 0, .bool false] 50)).heap.size (w.alloc (.cells #[.int .i64 0, .int .i64 0, .int .i64 0, .bool false] 50)) w1 → ∀ a0 a1 a2 a3, (∃ tv' vs', TbAt B Tb st cf ((((w1.setCell ⟨w.heap.size, 0, none⟩ a0).setCell ⟨w.heap.size, 1, none⟩ a1).setCell ⟨w.heap.size, 2, none⟩ a2).setCell ⟨w.heap.size, 3, none⟩ a3) bk tv' vs') ∧ Below B w ((((w1.setCell ⟨w.heap.size, 0, none⟩ a0).setCell ⟨w.heap.size, 1, none⟩ a1).setCell ⟨w.heap.size, 2, none⟩ a2).setCell ⟨w.heap.size, 3, none⟩ a3) ∧ Tf w ((((w1.setCell ⟨w.heap.size, 0, none⟩ a0).setCell ⟨w.heap.size, 1, none⟩ a1).setCell ⟨w.heap.size, 2, none⟩ a2).setCell ⟨w.heap.size, 3, none⟩ a3)) := by
    intro w1 hb1 a0 a1 a2 a3
    have hr1 := (hb1.block w.heap.size (by simp)).trans hr0
    obtain ⟨⟨vs', f1⟩, f2, f3⟩ := grant_end hr1 ⟨vs, hT0.below hb1⟩ ((hb0.mono (by omega)).trans (hb1.mono (by simp; omega))) ((Tf.of_below hb0).trans (Tf.of_below hb1)) (by omega) a0 a1 a2 a3
    exact ⟨⟨_, vs', f1⟩, f2, f3⟩
  have HB0 : Hid ((∃ tv' vs', TbAt B Tb st cf (w.alloc (.cells #[.int .i64 0, .int .i64 0, .int .i64 0, .bool false] 50)).drew bk tv' vs') ∧ Below B w (w.alloc (.cells #[.int .i64 0, .int .i64 0, .int .i64 0, .bool false] 50)).drew ∧ Tf w (w.alloc (.cells #[.int .i64 0, .int .i64 0, .int .i64 0, .bool false] 50)).drew) := ⟨⟨tv, vs, hT0.below (Below.refl _ _).drew⟩, (hb0.mono (by omega)).drew, (Tf.of_below hb0).drew⟩
  cases hfl : bk.fl with
  | true =>
    rw [hfl] at c14
    have HFL : Hid (bk.fl = true) := hfl
    clear h hT0 hfl
    go_enter Tryz.func53, Tryz.ntmps53
    go_wp2_with fail
    go_region
    all_goals
      go_wp2_with fail
      exact bodyPost_ret (v := .tuple #[.agg #[.int .i64 0, .int .i64 0, .int .i64 0, .bool false], .iface 513 (.pointer (some p9))]) (by simp [results, Tryz.results53, go_sem]) rfl (.inl ⟨.inl ⟨HFL.out, rfl⟩, HB0.out⟩)
  | false =>
    rw [hfl] at c14
    have HFL : Hid (bk.fl = false) := hfl
    by_cases hp : bk.ph = 3
    · rw [hp] at c10
      have HP : Hid (bk.ph = 3) := hp
      clear h hT0 hfl hp
      go_enter Tryz.func53, Tryz.ntmps53
      go_wp2_with fail
      go_region
      all_goals
        go_wp2_with fail
        exact bodyPost_ret (v := .tuple #[.agg #[.int .i64 0, .int .i64 0, .int .i64 0, .bool false], .iface 513 (.pointer (some p8))]) (by simp [results, Tryz.results53, go_sem]) rfl (.inl ⟨.inr (.inl ⟨HFL.out, HP.out, rfl⟩), HB0.out⟩)
    · have hpb : ((bk.ph : Int) == 3) = false := by simp; omega
      have HP : Hid (bk.ph ≠ 3) := hp
      have HI : Hid (Calls Tryz.prog 96 #[tv, .func (.func 97) #[] #[]] (w.alloc (.cells #[.int .i64 0, .int .i64 0, .int .i64 0, .bool false] 50)) fun e w1 => (∃ k : Nat, e = .returned (.int .i64 k) ∧ (∃ hk : k < bk.ts.length, bk.ts[k].idle = true) ∧ Calls Tryz.prog 98 #[.pointer (some ⟨Tb, 2, none⟩), .int .i64 (k : Nat), .bool false] w1 fun e w3 => e = .returned (.agg #[.int .i64 ((bk.gs : Int) + 1), .int .i64 k, .int .i64 bk.ph, .bool false]) ∧ (w3.cell? ⟨w.heap.size, 0, none⟩ = some (.int .i64 0) ∧ w3.cell? ⟨w.heap.size, 1, none⟩ = some (.int .i64 0) ∧ w3.cell? ⟨w.heap.size, 2, none⟩ = some (.int .i64 0) ∧ w3.cell? ⟨w.heap.size, 3, none⟩ = some (.bool false)) ∧ (∀ j, w3.frozen? ⟨w.heap.size, j, none⟩ = false) ∧ ∃ hk : k < bk.ts.length, ∀ a0 a1 a2 a3, (∃ tv' vs', TbAt B Tb st cf ((((w3.setCell ⟨w.heap.size, 0, none⟩ a0).setCell ⟨w.heap.size, 1, none⟩ a1).setCell ⟨w.heap.size, 2, none⟩ a2).setCell ⟨w.heap.size, 3, none⟩ a3) (bk.granted k bk.ts[k]) tv' vs') ∧ Below B w ((((w3.setCell ⟨w.heap.size, 0, none⟩ a0).setCell ⟨w.heap.size, 1, none⟩ a1).setCell ⟨w.heap.size, 2, none⟩ a2).setCell ⟨w.heap.size, 3, none⟩ a3) ∧ Tf w ((((w3.setCell ⟨w.heap.size, 0, none⟩ a0).setCell ⟨w.heap.size, 1, none⟩ a1).setCell ⟨w.heap.size, 2, none⟩ a2).setCell ⟨w.heap.size, 3, none⟩ a3)) ∨
          (e = .returned (.int .i64 (-1)) ∧ (∀ j (hj : j < bk.ts.length), bk.ts[j].idle = false) ∧ Calls Tryz.prog 99 #[.pointer (some ⟨Tb, 2, none⟩)] w1 fun e w2 => (∃ k : Nat, e = .returned (.tuple #[.int .i64 k, .bool true]) ∧ (∃ hk : k < bk.ts.length, bk.ts[k].mayB cf = true) ∧ Calls Tryz.prog 98 #[.pointer (some ⟨Tb, 2, none⟩), .int .i64 (k : Nat), .bool true] w2 fun e w3 => e = .returned (.agg #[.int .i64 ((bk.gs : Int) + 1), .int .i64 k, .int .i64 bk.ph, .bool true]) ∧ (w3.cell? ⟨w.heap.size, 0, none⟩ = some (.int .i64 0) ∧ w3.cell? ⟨w.heap.size, 1, none⟩ = some (.int .i64 0) ∧ w3.cell? ⟨w.heap.size, 2, none⟩ = some (.int .i64 0) ∧ w3.cell? ⟨w.heap.size, 3, none⟩ = some (.bool false)) ∧ (∀ j, w3.frozen? ⟨w.heap.size, j, none⟩ = false) ∧ ∃ hk : k < bk.ts.length, ∀ a0 a1 a2 a3, (∃ tv' vs', TbAt B Tb st cf ((((w3.setCell ⟨w.heap.size, 0, none⟩ a0).setCell ⟨w.heap.size, 1, none⟩ a1).setCell ⟨w.heap.size, 2, none⟩ a2).setCell ⟨w.heap.size, 3, none⟩ a3) (bk.granted k bk.ts[k]) tv' vs') ∧ Below B w ((((w3.setCell ⟨w.heap.size, 0, none⟩ a0).setCell ⟨w.heap.size, 1, none⟩ a1).setCell ⟨w.heap.size, 2, none⟩ a2).setCell ⟨w.heap.size, 3, none⟩ a3) ∧ Tf w ((((w3.setCell ⟨w.heap.size, 0, none⟩ a0).setCell ⟨w.heap.size, 1, none⟩ a1).setCell ⟨w.heap.size, 2, none⟩ a2).setCell ⟨w.heap.size, 3, none⟩ a3)) ∨
            (∃ m : Int, e = .returned (.tuple #[.int .i64 m, .bool false]) ∧ w2.cell? ⟨7, 0, none⟩ = some (.iface 513 (.pointer (some p7))) ∧ (w2.cell? ⟨w.heap.size, 0, none⟩ = some (.int .i64 0) ∧ w2.cell? ⟨w.heap.size, 1, none⟩ = some (.int .i64 0) ∧ w2.cell? ⟨w.heap.size, 2, none⟩ = some (.int .i64 0) ∧ w2.cell? ⟨w.heap.size, 3, none⟩ = some (.bool false)) ∧ (∀ j, w2.frozen? ⟨w.heap.size, j, none⟩ = false) ∧ ∀ a0 a1 a2 a3, (∃ tv' vs', TbAt B Tb st cf ((((w2.setCell ⟨w.heap.size, 0, none⟩ a0).setCell ⟨w.heap.size, 1, none⟩ a1).setCell ⟨w.heap.size, 2, none⟩ a2).setCell ⟨w.heap.size, 3, none⟩ a3) bk tv' vs') ∧ Below B w ((((w2.setCell ⟨w.heap.size, 0, none⟩ a0).setCell ⟨w.heap.size, 1, none⟩ a1).setCell ⟨w.heap.size, 2, none⟩ a2).setCell ⟨w.heap.size, 3, none⟩ a3) ∧ Tf w ((((w2.setCell ⟨w.heap.size, 0, none⟩ a0).setCell ⟨w.heap.size, 1, none⟩ a1).setCell ⟨w.heap.size, 2, none⟩ a2).setCell ⟨w.heap.size, 3, none⟩ a3)))) := by
        have hbB : ∀ w1, Below (w.alloc (.cells #[.int .i64 0, .int .i64 0, .int .i64 0, .bool false] 50)).heap.size (w.alloc (.cells #[.int .i64 0, .int .i64 0, .int .i64 0, .bool false] 50)) w1 → Below B w w1 := fun w1 hb1 => (hb0.mono (by omega)).trans (hb1.mono (by simp; omega))
        refine (idxTask hT0.ts hl).mono ?_
        rintro e w1 ⟨hr, hb1⟩
        rcases hr with ⟨k, hk, rfl, hid, _⟩ | ⟨rfl, hno⟩
        · refine .inl ⟨k, rfl, ⟨hk, hid⟩, (reqGrant (w := w) (hT0.below hb1) hB (by omega) k hk false h1 h2 h3 (hbB w1 hb1) ((Tf.of_below hb0).trans (Tf.of_below hb1)) ((hb1.block w.heap.size (by simp)).trans hr0)).mono ?_⟩
          rintro e w3 ⟨he, hc, hf, hfin⟩
          exact ⟨he, hc, hf, hk, hfin⟩
        · refine .inr ⟨rfl, hno, (slowest (hT0.below hb1) hl h3).mono ?_⟩
          rintro e w2 ⟨⟨m, ok, rfl, hok⟩, hb2⟩
          have hb2' : Below (w.alloc (.cells #[.int .i64 0, .int .i64 0, .int .i64 0, .bool false] 50)).heap.size (w.alloc (.cells #[.int .i64 0, .int .i64 0, .int .i64 0, .bool false] 50)) w2 := hb1.trans (hb2.mono hb1.size)
          have hr2 := (hb2'.block w.heap.size (by simp)).trans hr0
          cases ok with
          | true =>
            obtain ⟨k, hk, rfl, hmb⟩ := hok rfl
            refine .inl ⟨k, rfl, ⟨hk, hmb⟩, (reqGrant (w := w) (hT0.below hb2') hB (by omega) k hk true h1 h2 h3 (hbB w2 hb2') ((Tf.of_below hb0).trans (Tf.of_below hb2')) hr2).mono ?_⟩
            rintro e w3 ⟨he, hc, hf, hfin⟩
            exact ⟨he, hc, hf, hk, hfin⟩
          | false => exact .inr ⟨m, rfl, (hb2'.cell (hp_lt u7)).trans u7, by simp [World.cell?, hr2], by simp [World.frozen?, hr2], HNO.out w2 hb2'⟩
      clear h hT0 hfl hp HNO
      go_enter Tryz.func53, Tryz.ntmps53
      go_wp2_with (go_at_call 96; refine HI.out.mono ?_; rintro e w1 (⟨k, rfl, hidl, HC⟩ | ⟨rfl, hno, HC⟩))
      · have HG : Hid (Calls Tryz.prog 98 _ _ _) := HC
        have HID : Hid (∃ hk : k < bk.ts.length, bk.ts[k].idle = true) := hidl
        clear HC HI hidl
        go_wp2_with (go_at_call 98; refine HG.out.mono ?_; rintro e w3 ⟨rfl, ⟨z0, z1, z2, z3⟩, zf, hk, hfin⟩)
        have HFN : Hid (∀ a0 a1 a2 a3 : Value, _) := hfin
        exact bodyPost_ret (v := .tuple #[.agg #[.int .i64 ((bk.gs : Int) + 1), .int .i64 k, .int .i64 bk.ph, .bool false], .nilIface]) (by simp [results, Tryz.results53, go_sem, z0, z1, z2, z3]) rfl (.inr ⟨k, false, ⟨HFL.out, HP.out, rfl, .inl ⟨rfl, HID.out⟩⟩, hk, HFN.out _ _ _ _⟩)
      · have HS : Hid (Calls Tryz.prog 99 _ _ _) := HC
        have HNI : Hid (∀ j (hj : j < bk.ts.length), bk.ts[j].idle = false) := hno
        clear HC HI hno
        go_wp2_with (go_at_call 99; refine HS.out.mono ?_; rintro e w2 (⟨k, rfl, hmb, HC⟩ | ⟨m, rfl, x7, ⟨z0, z1, z2, z3⟩, zf, hfin⟩))
        · have HG : Hid (Calls Tryz.prog 98 _ _ _) := HC
          have HID : Hid (∃ hk : k < bk.ts.length, bk.ts[k].mayB cf = true) := hmb
          clear HC HS hmb
          go_wp2_with (go_at_call 98; refine HG.out.mono ?_; rintro e w3 ⟨rfl, ⟨z0, z1, z2, z3⟩, zf, hk, hfin⟩)
          have HFN : Hid (∀ a0 a1 a2 a3 : Value, _) := hfin
          exact bodyPost_ret (v := .tuple #[.agg #[.int .i64 ((bk.gs : Int) + 1), .int .i64 k, .int .i64 bk.ph, .bool true], .nilIface]) (by simp [results, Tryz.results53, go_sem, z0, z1, z2, z3]) rfl (.inr ⟨k, true, ⟨HFL.out, HP.out, rfl, .inr ⟨rfl, HNI.out, HID.out⟩⟩, hk, HFN.out _ _ _ _⟩)
        · have HFN : Hid (∀ a0 a1 a2 a3 : Value, _) := hfin
          have hG7 : 7 < w.heap.size := hp_lt e7
          have hG8 : ¬ w.heap.size = 7 := by omega
          have hG9 : ¬ 7 = w.heap.size := by omega
          clear hfin HS
          go_region
          all_goals
            go_wp2_with fail
            exact bodyPost_ret (v := .tuple #[.agg #[.int .i64 0, .int .i64 0, .int .i64 0, .bool false], .iface 513 (.pointer (some p7))]) (by simp [results, Tryz.results53, go_sem, z0, z1, z2, z3]) rfl (.inl ⟨.inr (.inr ⟨HFL.out, HP.out, HNI.out, rfl⟩), by
              obtain ⟨⟨tv', vs', f1⟩, f2, f3⟩ := HFN.out (.int .i64 0) (.int .i64 0) (.int .i64 0) (.bool false)
              exact ⟨⟨tv', vs', f1.below (Below.refl _ _).drew⟩, f2.drew, f3.drew⟩⟩)
end Go.Proofs.YtibofakbhgmhiabGreatDoor

namespace Go.Proofs.YtibofakbhgmhiabGreatDoor
open Go.RowKit

/-- clear of a slice of attempts -/
theorem clearAtts (w : World) (ty : TypeId) (b o n c : Nat) (hn : 0 < n) (hc : ∀ j, j < n * 4 → (w.cell? ⟨b, o + j, none⟩).isSome = true) (hf : ∀ j, j < n * 4 → w.frozen? ⟨b, o + j, none⟩ = false) :
    (Builtin.clear_ #[203] ty #[.slice (some ⟨b, o, none⟩) n c]).run Tryz.prog w = .ok (.tuple #[]) (w.setCells b o (Builtin.zeroCells (Value.agg #[.int .i64 0, .int .i64 0, .int .i64 0, .int .i64 0]).cells n).toList) := by
  have hv : ∀ w, (zeroValue 283).run Tryz.prog w = .ok (.agg #[.int .i64 0, .int .i64 0, .int .i64 0, .int .i64 0]) w := fun w => Tryz.zeroValue283 w
  have hlen : (Builtin.zeroCells (Value.agg #[.int .i64 0, .int .i64 0, .int .i64 0, .int .i64 0]).cells n).toList.length = n * 4 := by simp [Builtin.zeroCells, Value.cells]
  have hone : ∀ v ∈ (Builtin.zeroCells (Value.agg #[.int .i64 0, .int .i64 0, .int .i64 0, .int .i64 0]).cells n).toList, v.oneCell' = true := by
    intro v hv
    obtain ⟨i, hi, rfl⟩ := List.getElem_of_mem hv
    have hm : i % 4 = 0 ∨ i % 4 = 1 ∨ i % 4 = 2 ∨ i % 4 = 3 := by omega
    simp only [Builtin.zeroCells, Value.cells, Array.getElem_toList, Array.getElem_map, Array.getElem_range]
    rcases hm with h | h | h | h <;> simp [h, Value.oneCell']
  have hst := run_storeCells_cells (P := Tryz.prog) b o (Builtin.zeroCells (Value.agg #[.int .i64 0, .int .i64 0, .int .i64 0, .int .i64 0]).cells n).toList 0 w (by rw [hlen]; simpa using hc) (by rw [hlen]; simpa using hf) hone
  simp only [Nat.add_zero] at hst
  obtain ⟨m, rfl⟩ : ∃ m, n = m + 1 := ⟨n - 1, by omega⟩
  simp [Builtin.clear_, run_underlying Tryz.underlying203, hv, hst]
theorem own_setCells {B : Nat} {e : TypeId} {s g m c : Nat} {xs : List Value} : ∀ (L : List Value) (o : Nat) (w : World), w.ownsRow B e s (.slice (some ⟨g, 0, none⟩) m c) m xs → m * s ≤ o → (w.setCells g o L).ownsRow B e s (.slice (some ⟨g, 0, none⟩) m c) m xs
  | [], _, _, h, _ => h
  | v :: L, o, _, h, ho => by
    have h1 := (h.stored o v).1
    rw [List.set_eq_of_length_le (by rw [h.1]; exact ho)] at h1
    exact own_setCells L (o + 1) _ h1 (by omega)
theorem kp_setCells {g : Nat} {a : World} : ∀ (L : List Value) (o : Nat) (w : World), Kp (· = g) a w → Kp (· = g) a (w.setCells g o L)
  | [], _, _, h => h
  | v :: L, o, _, h => kp_setCells L (o + 1) _ (h.setCell (fun _ => rfl) v)

theorem ac_put : ∀ (l : List At) (i : Nat) (x : At), ((((ac l).set (i * 4) (.int .i64 x.id)).set (i * 4 + 1) (.int .i64 x.far)).set (i * 4 + 2) (.int .i64 x.gr)).set (i * 4 + 3) (.int .i64 x.hd) = ac (l.set i x)
  | [], i, x => by simp [ac]
  | p :: ps, 0, x => by simp [ac]
  | p :: ps, i + 1, x => by
    have := ac_put ps i x
    rw [show (i + 1) * 4 = i * 4 + 4 from by omega]
    simpa [ac] using this
theorem ac_take : ∀ (l : List At) (m : Nat), (ac l).take (m * 4) = ac (l.take m)
  | [], m => by simp [ac]
  | h :: t, 0 => by simp [ac]
  | h :: t, m + 1 => by
    rw [show (m + 1) * 4 = m * 4 + 4 from by omega]
    simp [ac, ac_take t m]

/-- how far DeleteFunc has come: m is what the row holds -/
structure Kept (p : At → Bool) (l m : List At) (i j : Nat) : Prop where
  len : m.length = l.length
  lt : i < j
  le : j ≤ l.length
  head : m.take i = (l.take j).filter (fun x => !p x)
  rest : ∀ k (hk : k < l.length) (hm : k < m.length), j ≤ k → m[k] = l[k]
theorem Kept.start {p : At → Bool} {l : List At} {i : Nat} (hi : i < l.length) (hp : p l[i] = true) (hno : ∀ k (hk : k < i), p (l[k]'(by omega)) = false) : Kept p l l i (i + 1) := by
  refine ⟨rfl, by omega, by omega, ?_, fun _ _ _ _ => rfl⟩
  rw [List.take_succ_eq_append_getElem hi, List.filter_append]
  have e1 : (l.take i).filter (fun x => !p x) = l.take i := by
    rw [List.filter_eq_self]
    intro x hx
    obtain ⟨k, hk, rfl⟩ := List.getElem_of_mem hx
    simp only [List.length_take] at hk
    rw [List.getElem_take]
    simp [hno k (by omega)]
  rw [e1]
  simp [hp]
theorem Kept.drop {p : At → Bool} {l m : List At} {i j : Nat} (h : Kept p l m i j) (hj : j < l.length) (hp : p l[j] = true) : Kept p l m i (j + 1) := by
  have h1 := h.len
  have h2 := h.lt
  refine ⟨h1, by omega, by omega, ?_, fun k hk hm hjk => h.rest k hk hm (by omega)⟩
  rw [h.head, List.take_succ_eq_append_getElem hj, List.filter_append]
  simp [hp]
theorem Kept.keep {p : At → Bool} {l m : List At} {i j : Nat} (h : Kept p l m i j) (hj : j < l.length) (hp : p l[j] = false) : Kept p l (m.set i l[j]) (i + 1) (j + 1) := by
  have h1 := h.len
  have h2 := h.lt
  refine ⟨by simpa using h1, by omega, by omega, ?_, fun k hk hm hjk => ?_⟩
  · rw [List.take_succ_eq_append_getElem (by simp; omega), List.getElem_set_self, List.take_set_of_le (Nat.le_refl i), h.head, List.take_succ_eq_append_getElem hj, List.filter_append]
    simp [hp]
  · rw [List.getElem_set_ne (by omega)]
    exact h.rest k hk (by simpa using hm) (by omega)
theorem Kept.done {p : At → Bool} {l m : List At} {i j : Nat} (h : Kept p l m i j) (hj : ¬ j < l.length) : m.take i = l.filter (fun x => !p x) := by
  have h1 := h.le
  rw [h.head, show j = l.length by omega, List.take_length]


set_option maxHeartbeats 1000000 in
set_option maxRecDepth 100000 in
theorem idxFail {w : World} {v : Value} {l : List At} (h : AtsAt w v l) (hl : l.length ≤ 1048576) (Ib : Nat) (p : At → Bool) (K : World → Prop) (hK : K w) (hKb : ∀ W W', K W → Below W.heap.size W W' → K W') (cl : ∀ (x : At) (W : World), K W → Calls Tryz.prog 235 #[.agg #[.int .i64 x.id, .int .i64 x.far, .int .i64 x.gr, .int .i64 x.hd], .pointer (some ⟨Ib, 0, none⟩)] W fun e w' => e = .returned (.bool (p x)) ∧ Below W.heap.size W w') :
    Calls Tryz.prog 169 #[v, .func (.func 235) #[] #[.pointer (some ⟨Ib, 0, none⟩)]] w fun e w' => ((∃ k, ∃ hk : k < l.length, e = .returned (.int .i64 k) ∧ p l[k] = true ∧ ∀ j (hj : j < k), p (l[j]'(by omega)) = false) ∨ (e = .returned (.int .i64 (-1)) ∧ ∀ j (hj : j < l.length), p l[j] = false)) ∧ Below w.heap.size w w' := by
  obtain ⟨a, c, rfl, hc⟩ := h
  have CL : Hid (∀ (x : At) (W : World), K W → Calls Tryz.prog 235 #[.agg #[.int .i64 x.id, .int .i64 x.far, .int .i64 x.gr, .int .i64 x.hd], .pointer (some ⟨Ib, 0, none⟩)] W fun e w' => e = .returned (.bool (p x)) ∧ Below W.heap.size W w') := cl
  have KB : Hid (∀ W, Below w.heap.size w W → K W) := fun W hW => hKb w W hK hW
  clear cl hKb hK
  go_enter Tryz.func169, Tryz.ntmps169
  go_wp2_with fail
  go_loopw [8] (fun jv wr => ∃ j : Nat, j ≤ l.length ∧ jv = .int .i64 j ∧ (∀ i (hi : i < j) (hl : i < l.length), p l[i] = false) ∧ Below w.heap.size w wr) (fun jv _ => l.length - (intOf jv).toNat)
  case atStart => exact ⟨0, Nat.zero_le _, rfl, fun i hi => absurd hi (Nat.not_lt_zero _), Below.refl _ _⟩
  case round =>
    obtain ⟨j, hj, rfl, hno, hb⟩ := hrel
    by_cases hjl : j < l.length
    · obtain ⟨b, rfl, c0, c1, c2, c3⟩ := hc j hjl
      have d0 := (hb.cell (p := ⟨b, j * 4, none⟩) (hp_lt c0)).trans c0
      have d1 := (hb.cell (p := ⟨b, j * 4 + 1, none⟩) (hp_lt c1)).trans c1
      have d2 := (hb.cell (p := ⟨b, j * 4 + 2, none⟩) (hp_lt c2)).trans c2
      have d3 := (hb.cell (p := ⟨b, j * 4 + 3, none⟩) (hp_lt c3)).trans c3
      have HI : Hid (Calls Tryz.prog 235 #[.agg #[.int .i64 l[j].id, .int .i64 l[j].far, .int .i64 l[j].gr, .int .i64 l[j].hd], .pointer (some ⟨Ib, 0, none⟩)] wr fun e w' => e = .returned (.bool (p l[j])) ∧ Below w.heap.size w w') := by
        refine (CL.out l[j] wr (KB.out wr hb)).mono ?_
        rintro e w1 ⟨rfl, hb1⟩
        exact ⟨rfl, hb.trans (hb1.mono hb.size)⟩
      have HN : Hid (∀ i (hi : i < j) (hl : i < l.length), p l[i] = false) := hno
      clear hno c0 c1 c2 c3 hc CL KB
      obtain ⟨y, hy⟩ : ∃ y, y = l[j] := ⟨_, rfl⟩
      rw [← hy] at d0 d1 d2 d3 HI
      have HX : Hid (y = l[j]) := hy
      clear hy
      obtain ⟨r, hr⟩ : ∃ r, r = p y := ⟨_, rfl⟩
      rw [← hr] at HI
      have HR : Hid (r = p y) := hr
      clear hr
      obtain ⟨yi, yf, yg, yh⟩ := y
      simp only at d0 d1 d2 d3 HI
      cases r with
      | true =>
        go_wp2_with (go_at_call 235; refine HI.out.mono ?_; rintro e w1 ⟨rfl, hb1⟩)
        go_ret
        exact ⟨.inl ⟨j, hjl, rfl, by rw [← HX.out]; exact HR.out.symm, fun i hi => HN.out i hi (by omega)⟩, hb1⟩
      | false =>
        go_wp2_with (go_at_call 235; refine HI.out.mono ?_; rintro e w1 ⟨rfl, hb1⟩)
        go_roundw
        case rel =>
          refine ⟨j + 1, by omega, by go_num, fun i hi hl => ?_, hb1⟩
          by_cases e : i < j
          · exact HN.out i e hl
          · obtain rfl : i = j := by omega
            rw [← HX.out]; exact HR.out.symm
        case measure => simp [intOf]; omega
    · obtain rfl : j = l.length := by omega
      clear hc
      go_wp2
      go_ret
      exact ⟨.inr ⟨rfl, fun i hi => hno i hi hi⟩, hb⟩

set_option maxHeartbeats 1000000 in
set_option maxRecDepth 100000 in
theorem idxTick {w : World} {v : Value} {l : List At} (h : AtsAt w v l) (hl : l.length ≤ 1048576) (Ib : Nat) (p : At → Bool) (K : World → Prop) (hK : K w) (hKb : ∀ W W', K W → Below W.heap.size W W' → K W') (cl : ∀ (x : At) (W : World), K W → Calls Tryz.prog 154 #[.agg #[.int .i64 x.id, .int .i64 x.far, .int .i64 x.gr, .int .i64 x.hd], .pointer (some ⟨Ib, 0, none⟩)] W fun e w' => e = .returned (.bool (p x)) ∧ Below W.heap.size W w') :
    Calls Tryz.prog 169 #[v, .func (.func 154) #[] #[.pointer (some ⟨Ib, 0, none⟩)]] w fun e w' => ((∃ k, ∃ hk : k < l.length, e = .returned (.int .i64 k) ∧ p l[k] = true ∧ ∀ j (hj : j < k), p (l[j]'(by omega)) = false) ∨ (e = .returned (.int .i64 (-1)) ∧ ∀ j (hj : j < l.length), p l[j] = false)) ∧ Below w.heap.size w w' := by
  obtain ⟨a, c, rfl, hc⟩ := h
  have CL : Hid (∀ (x : At) (W : World), K W → Calls Tryz.prog 154 #[.agg #[.int .i64 x.id, .int .i64 x.far, .int .i64 x.gr, .int .i64 x.hd], .pointer (some ⟨Ib, 0, none⟩)] W fun e w' => e = .returned (.bool (p x)) ∧ Below W.heap.size W w') := cl
  have KB : Hid (∀ W, Below w.heap.size w W → K W) := fun W hW => hKb w W hK hW
  clear cl hKb hK
  go_enter Tryz.func169, Tryz.ntmps169
  go_wp2_with fail
  go_loopw [8] (fun jv wr => ∃ j : Nat, j ≤ l.length ∧ jv = .int .i64 j ∧ (∀ i (hi : i < j) (hl : i < l.length), p l[i] = false) ∧ Below w.heap.size w wr) (fun jv _ => l.length - (intOf jv).toNat)
  case atStart => exact ⟨0, Nat.zero_le _, rfl, fun i hi => absurd hi (Nat.not_lt_zero _), Below.refl _ _⟩
  case round =>
    obtain ⟨j, hj, rfl, hno, hb⟩ := hrel
    by_cases hjl : j < l.length
    · obtain ⟨b, rfl, c0, c1, c2, c3⟩ := hc j hjl
      have d0 := (hb.cell (p := ⟨b, j * 4, none⟩) (hp_lt c0)).trans c0
      have d1 := (hb.cell (p := ⟨b, j * 4 + 1, none⟩) (hp_lt c1)).trans c1
      have d2 := (hb.cell (p := ⟨b, j * 4 + 2, none⟩) (hp_lt c2)).trans c2
      have d3 := (hb.cell (p := ⟨b, j * 4 + 3, none⟩) (hp_lt c3)).trans c3
      have HI : Hid (Calls Tryz.prog 154 #[.agg #[.int .i64 l[j].id, .int .i64 l[j].far, .int .i64 l[j].gr, .int .i64 l[j].hd], .pointer (some ⟨Ib, 0, none⟩)] wr fun e w' => e = .returned (.bool (p l[j])) ∧ Below w.heap.size w w') := by
        refine (CL.out l[j] wr (KB.out wr hb)).mono ?_
        rintro e w1 ⟨rfl, hb1⟩
        exact ⟨rfl, hb.trans (hb1.mono hb.size)⟩
      have HN : Hid (∀ i (hi : i < j) (hl : i < l.length), p l[i] = false) := hno
      clear hno c0 c1 c2 c3 hc CL KB
      obtain ⟨y, hy⟩ : ∃ y, y = l[j] := ⟨_, rfl⟩
      rw [← hy] at d0 d1 d2 d3 HI
      have HX : Hid (y = l[j]) := hy
      clear hy
      obtain ⟨r, hr⟩ : ∃ r, r = p y := ⟨_, rfl⟩
      rw [← hr] at HI
      have HR : Hid (r = p y) := hr
      clear hr
      obtain ⟨yi, yf, yg, yh⟩ := y
      simp only at d0 d1 d2 d3 HI
      cases r with
      | true =>
        go_wp2_with (go_at_call 154; refine HI.out.mono ?_; rintro e w1 ⟨rfl, hb1⟩)
        go_ret
        exact ⟨.inl ⟨j, hjl, rfl, by rw [← HX.out]; exact HR.out.symm, fun i hi => HN.out i hi (by omega)⟩, hb1⟩
      | false =>
        go_wp2_with (go_at_call 154; refine HI.out.mono ?_; rintro e w1 ⟨rfl, hb1⟩)
        go_roundw
        case rel =>
          refine ⟨j + 1, by omega, by go_num, fun i hi hl => ?_, hb1⟩
          by_cases e : i < j
          · exact HN.out i e hl
          · obtain rfl : i = j := by omega
            rw [← HX.out]; exact HR.out.symm
        case measure => simp [intOf]; omega
    · obtain rfl : j = l.length := by omega
      clear hc
      go_wp2
      go_ret
      exact ⟨.inr ⟨rfl, fun i hi => hno i hi hi⟩, hb⟩
end Go.Proofs.YtibofakbhgmhiabGreatDoor

namespace Go.Proofs.YtibofakbhgmhiabGreatDoor
open Go.RowKit

set_option maxHeartbeats 2000000 in
set_option maxRecDepth 100000 in
theorem delFail {B : Nat} {w : World} {a : Option Addr} {c : Nat} {l : List At} (h : w.ownsRow B 283 4 (.slice a l.length c) l.length (ac l)) (hl : l.length ≤ 1048576) (Ib : Nat) (p : At → Bool) (K : World → Prop) (hK : K w) (hKb : ∀ W W', K W → Below W.heap.size W W' → K W') (hKs : ∀ W lb j v, a = some ⟨lb, 0, none⟩ → K W → K (W.setCell ⟨lb, j, none⟩ v)) (cl : ∀ (x : At) (W : World), K W → Calls Tryz.prog 235 #[.agg #[.int .i64 x.id, .int .i64 x.far, .int .i64 x.gr, .int .i64 x.hd], .pointer (some ⟨Ib, 0, none⟩)] W fun e w' => e = .returned (.bool (p x)) ∧ Below W.heap.size W w') :
    Calls Tryz.prog 236 #[.slice a l.length c, .func (.func 235) #[] #[.pointer (some ⟨Ib, 0, none⟩)]] w fun e w' => e = .returned (.slice a (l.filter fun x => !p x).length c) ∧ w'.ownsRow B 283 4 (.slice a (l.filter fun x => !p x).length c) (l.filter fun x => !p x).length (ac (l.filter fun x => !p x)) ∧ Kp (fun i => a = some ⟨i, 0, none⟩) w w' := by
  have HI : Hid (Calls Tryz.prog 169 #[.slice a l.length c, .func (.func 235) #[] #[.pointer (some ⟨Ib, 0, none⟩)]] w fun e w1 => (∃ k lb, e = .returned (.int .i64 (k : Nat)) ∧ a = some ⟨lb, 0, none⟩ ∧ k + 1 ≤ l.length ∧ Kept p l l k (k + 1) ∧ K w1 ∧ Below w.heap.size w w1) ∨ (e = .returned (.int .i64 (-1)) ∧ l.filter (fun x => !p x) = l ∧ Below w.heap.size w w1)) := by
    refine (idxFail (ats_of_own h) hl Ib p K hK hKb cl).mono ?_
    rintro e w1 ⟨hr, hb⟩
    rcases hr with ⟨k, hk, rfl, h1, h2⟩ | ⟨rfl, h1⟩
    · obtain ⟨lb, rfl⟩ : ∃ lb, a = some ⟨lb, 0, none⟩ := by
        rcases h.2 with ⟨_, hn⟩ | ⟨g, cap, cur, hv, _⟩
        · omega
        · simp only [Value.slice.injEq] at hv; exact ⟨g, hv.1⟩
      exact .inl ⟨k, lb, rfl, rfl, by omega, Kept.start hk h1 h2, hKb w w1 hK hb, hb⟩
    · refine .inr ⟨rfl, ?_, hb⟩
      rw [List.filter_eq_self]
      intro x hx
      obtain ⟨j, hj, rfl⟩ := List.getElem_of_mem hx
      simp [h1 j hj]
  have CL : Hid (∀ (x : At) (W : World), K W → Calls Tryz.prog 235 #[.agg #[.int .i64 x.id, .int .i64 x.far, .int .i64 x.gr, .int .i64 x.hd], .pointer (some ⟨Ib, 0, none⟩)] W fun e w' => e = .returned (.bool (p x)) ∧ Below W.heap.size W w') := cl
  have KB : Hid (∀ W W', K W → Below W.heap.size W W' → K W') := hKb
  have KS : Hid (∀ W lb j v, a = some ⟨lb, 0, none⟩ → K W → K (W.setCell ⟨lb, j, none⟩ v)) := hKs
  clear cl hKb hK hKs
  go_enter Tryz.func236, Tryz.ntmps236
  go_wp2_with (go_at_call 169; refine HI.out.mono ?_; rintro e w1 (⟨k, lb, rfl, rfl, hkb, hkp, hK1, hb1⟩ | ⟨rfl, hfl, hb1⟩))
  · have ho1 := hown_below h hb1
    have hlb : lb < w.heap.size := (h.lt lb rfl).2
    have hBl : B ≤ lb := (h.lt lb rfl).1
    clear h HI
    go_loopw [5, 6] (fun iv jv wr => ∃ (i j : Nat) (m : List At), iv = .int .i64 i ∧ jv = .int .i64 j ∧ Kept p l m i j ∧ wr.ownsRow B 283 4 (.slice (some ⟨lb, 0, none⟩) l.length c) l.length (ac m) ∧ K wr ∧ Kp (· = lb) w wr) (fun _ jv _ => l.length - (intOf jv).toNat)
    case atStart => exact ⟨k, k + 1, l, rfl, by go_num, hkp, ho1, hK1, Kp.of_below hb1⟩
    case round =>
      clear hkp ho1 hK1 hb1
      obtain ⟨i, j, m, rfl, rfl, hkp, ho, hKr, hkw⟩ := hrel
      have hml := hkp.len
      have hij := hkp.lt
      by_cases hjl : j < l.length
      · have hmj : j < m.length := by omega
        have hmi : i < m.length := by omega
        have exj : m[j] = l[j] := hkp.rest j hjl hmj (Nat.le_refl _)
        have aj := ac_at m j hmj
        have d0 := (ho.cellAt (j * 4) (by omega)).trans aj.1
        have d1 := (ho.cellAt (j * 4 + 1) (by omega)).trans aj.2.1
        have d2 := (ho.cellAt (j * 4 + 2) (by omega)).trans aj.2.2.1
        have d3 := (ho.cellAt (j * 4 + 3) (by omega)).trans aj.2.2.2
        rw [exj] at d0 d1 d2 d3
        have HC : Hid (Calls Tryz.prog 235 #[.agg #[.int .i64 l[j].id, .int .i64 l[j].far, .int .i64 l[j].gr, .int .i64 l[j].hd], .pointer (some ⟨Ib, 0, none⟩)] (wr.alloc (.cells #[.int .i64 l[j].id, .int .i64 l[j].far, .int .i64 l[j].gr, .int .i64 l[j].hd] 283)) fun e w2 => e = .returned (.bool (p l[j])) ∧ (w2.cell? ⟨wr.heap.size, 0, none⟩ = some (.int .i64 l[j].id) ∧ w2.cell? ⟨wr.heap.size, 1, none⟩ = some (.int .i64 l[j].far) ∧ w2.cell? ⟨wr.heap.size, 2, none⟩ = some (.int .i64 l[j].gr) ∧ w2.cell? ⟨wr.heap.size, 3, none⟩ = some (.int .i64 l[j].hd)) ∧ (∃ u0 u1 u2 u3, w2.cell? ⟨lb, i * 4, none⟩ = some (.int .i64 u0) ∧ w2.cell? ⟨lb, i * 4 + 1, none⟩ = some (.int .i64 u1) ∧ w2.cell? ⟨lb, i * 4 + 2, none⟩ = some (.int .i64 u2) ∧ w2.cell? ⟨lb, i * 4 + 3, none⟩ = some (.int .i64 u3)) ∧ (∀ q, w2.frozen? ⟨lb, q, none⟩ = false) ∧ (K w2 ∧ w2.ownsRow B 283 4 (.slice (some ⟨lb, 0, none⟩) l.length c) l.length (ac m) ∧ Kp (· = lb) w w2) ∧
            (K ((((w2.setCell ⟨lb, i * 4, none⟩ (.int .i64 l[j].id)).setCell ⟨lb, i * 4 + 1, none⟩ (.int .i64 l[j].far)).setCell ⟨lb, i * 4 + 2, none⟩ (.int .i64 l[j].gr)).setCell ⟨lb, i * 4 + 3, none⟩ (.int .i64 l[j].hd)) ∧ ((((w2.setCell ⟨lb, i * 4, none⟩ (.int .i64 l[j].id)).setCell ⟨lb, i * 4 + 1, none⟩ (.int .i64 l[j].far)).setCell ⟨lb, i * 4 + 2, none⟩ (.int .i64 l[j].gr)).setCell ⟨lb, i * 4 + 3, none⟩ (.int .i64 l[j].hd)).ownsRow B 283 4 (.slice (some ⟨lb, 0, none⟩) l.length c) l.length (ac (m.set i l[j])) ∧ Kp (· = lb) w ((((w2.setCell ⟨lb, i * 4, none⟩ (.int .i64 l[j].id)).setCell ⟨lb, i * 4 + 1, none⟩ (.int .i64 l[j].far)).setCell ⟨lb, i * 4 + 2, none⟩ (.int .i64 l[j].gr)).setCell ⟨lb, i * 4 + 3, none⟩ (.int .i64 l[j].hd)))) := by
          have hba : Below wr.heap.size wr (wr.alloc (.cells #[.int .i64 l[j].id, .int .i64 l[j].far, .int .i64 l[j].gr, .int .i64 l[j].hd] 283)) := (Below.refl _ _).alloc (Nat.le_refl _) _
          refine (CL.out l[j] _ (KB.out wr _ hKr hba)).mono ?_
          rintro e w2 ⟨rfl, hb2⟩
          have hK2 := KB.out _ _ (KB.out wr _ hKr hba) hb2
          have ho2 := hown_below (hown_below ho hba) hb2
          have hkw2 : Kp (· = lb) w w2 := (hkw.trans (Kp.of_below (P := (· = lb)) hba) (fun _ _ e => e)).trans (Kp.of_below (P := (· = lb)) hb2) (fun _ _ e => e)
          have hn : ∀ q, q < 4 → w2.cell? ⟨wr.heap.size, q, none⟩ = #[Value.int .i64 l[j].id, .int .i64 l[j].far, .int .i64 l[j].gr, .int .i64 l[j].hd][q]? := fun q hq => by
            rw [hb2.cell (p := ⟨wr.heap.size, q, none⟩) (by simp), World.cell?_alloc_at _ _ _ _ (by simp)]
          have ai := ac_at m i hmi
          refine ⟨rfl, ⟨hn 0 (by omega), hn 1 (by omega), hn 2 (by omega), hn 3 (by omega)⟩, ⟨_, _, _, _, (ho2.cellAt (i * 4) (by omega)).trans ai.1, (ho2.cellAt (i * 4 + 1) (by omega)).trans ai.2.1, (ho2.cellAt (i * 4 + 2) (by omega)).trans ai.2.2.1, (ho2.cellAt (i * 4 + 3) (by omega)).trans ai.2.2.2⟩, fun q => ho2.frozenAt q, ⟨hK2, ho2, hkw2⟩, ?_, ?_, ?_⟩
          · exact KS.out _ lb _ _ rfl (KS.out _ lb _ _ rfl (KS.out _ lb _ _ rfl (KS.out _ lb _ _ rfl hK2)))
          · rw [← ac_put]
            exact ((((ho2.stored _ _).1.stored _ _).1.stored _ _).1.stored _ _).1
          · exact (((hkw2.setCell (fun _ => rfl) _).setCell (fun _ => rfl) _).setCell (fun _ => rfl) _).setCell (fun _ => rfl) _
        have HKD : Hid (p l[j] = true → Kept p l m i (j + 1)) := fun e => hkp.drop hjl e
        have HKK : Hid (p l[j] = false → Kept p l (m.set i l[j]) (i + 1) (j + 1)) := fun e => hkp.keep hjl e
        have hjl' : (j : Int) < (l.length : Int) := by omega
        have hil' : (i : Int) < (l.length : Int) := by omega
        clear hkp ho hKr hkw aj exj CL KB KS
        obtain ⟨r, hr⟩ : ∃ r, r = p l[j] := ⟨_, rfl⟩
        rw [← hr] at HC HKD HKK
        clear hr
        obtain ⟨y, hy⟩ : ∃ y, y = l[j] := ⟨_, rfl⟩
        rw [← hy] at d0 d1 d2 d3 HC HKK
        clear hy
        obtain ⟨yi, yf, yg, yh⟩ := y
        simp only at d0 d1 d2 d3 HC
        cases r with
        | true =>
          go_wp2_with (go_at_call 235; refine HC.out.mono ?_; rintro e w2 ⟨rfl, ⟨n0, n1, n2, n3⟩, ⟨x0, x1, x2, x3, q0, q1, q2, q3⟩, qf, hA, hB2⟩)
          go_roundw
          case rel => exact ⟨_, _, _, _, _, _, _, _, _, _, _, _, _, _, _, _, _, _, _, _, _, _, _, ⟨i, j + 1, m, rfl, by go_num, HKD.out (by simp), hA.2.1, hA.1, hA.2.2⟩, rfl⟩
          case measure => simp [intOf]; omega
        | false =>
          go_wp2_with (go_at_call 235; refine HC.out.mono ?_; rintro e w2 ⟨rfl, ⟨n0, n1, n2, n3⟩, ⟨x0, x1, x2, x3, q0, q1, q2, q3⟩, qf, hA, hB2⟩)
          go_roundw
          case rel => exact ⟨_, _, _, _, _, _, _, _, _, _, _, _, _, _, _, _, _, _, _, _, _, _, _, ⟨i + 1, j + 1, m.set i ⟨yi, yf, yg, yh⟩, by go_num, by go_num, HKK.out (by simp), hB2.2.1, hB2.1, hB2.2.2⟩, rfl⟩
          case measure => simp [intOf]; omega
      · have hdn := hkp.done hjl
        have hil : i < l.length := by have := hkp.le; omega
        have hfl : (l.filter fun x => !p x).length = i := by rw [← hdn, List.length_take]; omega
        have hcap : l.length ≤ c := by
          rcases ho.2 with ⟨hn, _⟩ | ⟨g', cap', cur, hv, hb, hg, hnc, _⟩
          · cases hn
          · simp only [Value.slice.injEq] at hv
            obtain ⟨_, _, rfl⟩ := hv
            exact hnc
        have hclr := fun ty => clearAtts wr ty lb (i * 4) (l.length - i) (c - i) (by omega) (fun q hq => by rw [ho.cellAt (i * 4 + q) (by omega)]; rw [List.getElem?_eq_getElem (by rw [ac_length]; omega)]; rfl) (fun q _ => ho.frozenAt _)
        have HFIN : Hid ((wr.setCells lb (i * 4) (Builtin.zeroCells (Value.agg #[.int .i64 0, .int .i64 0, .int .i64 0, .int .i64 0]).cells (l.length - i)).toList).ownsRow B 283 4 (.slice (some ⟨lb, 0, none⟩) i c) i (ac (l.filter fun x => !p x)) ∧ Kp (fun x => some (⟨lb, 0, none⟩ : Addr) = some ⟨x, 0, none⟩) w (wr.setCells lb (i * 4) (Builtin.zeroCells (Value.agg #[.int .i64 0, .int .i64 0, .int .i64 0, .int .i64 0]).cells (l.length - i)).toList)) := by
          refine ⟨?_, (kp_setCells _ _ _ hkw).weaken (fun x _ e => by rw [e])⟩
          have h1 := own_take ho (m := i) (by omega)
          rw [ac_take, hdn] at h1
          exact own_setCells _ _ _ h1 (Nat.le_refl _)
        have HFL : Hid ((l.filter fun x => !p x).length = i) := hfl
        have hil' : (i : Int) ≤ (l.length : Int) := by omega
        have hlc' : (l.length : Int) ≤ (c : Int) := by omega
        clear hkp ho hKr hkw CL KB KS hdn hfl
        go_wp2
        go_ret
        rw [HFL.out]
        exact ⟨rfl, HFIN.out⟩
  · rw [hfl]
    have ho1 := hown_below h hb1
    clear h HI
    go_ret
    exact ⟨rfl, ho1, Kp.of_below hb1⟩

set_option maxHeartbeats 2000000 in
set_option maxRecDepth 100000 in
theorem delTick {B : Nat} {w : World} {a : Option Addr} {c : Nat} {l : List At} (h : w.ownsRow B 283 4 (.slice a l.length c) l.length (ac l)) (hl : l.length ≤ 1048576) (Ib : Nat) (p : At → Bool) (K : World → Prop) (hK : K w) (hKb : ∀ W W', K W → Below W.heap.size W W' → K W') (hKs : ∀ W lb j v, a = some ⟨lb, 0, none⟩ → K W → K (W.setCell ⟨lb, j, none⟩ v)) (cl : ∀ (x : At) (W : World), K W → Calls Tryz.prog 154 #[.agg #[.int .i64 x.id, .int .i64 x.far, .int .i64 x.gr, .int .i64 x.hd], .pointer (some ⟨Ib, 0, none⟩)] W fun e w' => e = .returned (.bool (p x)) ∧ Below W.heap.size W w') :
    Calls Tryz.prog 236 #[.slice a l.length c, .func (.func 154) #[] #[.pointer (some ⟨Ib, 0, none⟩)]] w fun e w' => e = .returned (.slice a (l.filter fun x => !p x).length c) ∧ w'.ownsRow B 283 4 (.slice a (l.filter fun x => !p x).length c) (l.filter fun x => !p x).length (ac (l.filter fun x => !p x)) ∧ Kp (fun i => a = some ⟨i, 0, none⟩) w w' := by
  have HI : Hid (Calls Tryz.prog 169 #[.slice a l.length c, .func (.func 154) #[] #[.pointer (some ⟨Ib, 0, none⟩)]] w fun e w1 => (∃ k lb, e = .returned (.int .i64 (k : Nat)) ∧ a = some ⟨lb, 0, none⟩ ∧ k + 1 ≤ l.length ∧ Kept p l l k (k + 1) ∧ K w1 ∧ Below w.heap.size w w1) ∨ (e = .returned (.int .i64 (-1)) ∧ l.filter (fun x => !p x) = l ∧ Below w.heap.size w w1)) := by
    refine (idxTick (ats_of_own h) hl Ib p K hK hKb cl).mono ?_
    rintro e w1 ⟨hr, hb⟩
    rcases hr with ⟨k, hk, rfl, h1, h2⟩ | ⟨rfl, h1⟩
    · obtain ⟨lb, rfl⟩ : ∃ lb, a = some ⟨lb, 0, none⟩ := by
        rcases h.2 with ⟨_, hn⟩ | ⟨g, cap, cur, hv, _⟩
        · omega
        · simp only [Value.slice.injEq] at hv; exact ⟨g, hv.1⟩
      exact .inl ⟨k, lb, rfl, rfl, by omega, Kept.start hk h1 h2, hKb w w1 hK hb, hb⟩
    · refine .inr ⟨rfl, ?_, hb⟩
      rw [List.filter_eq_self]
      intro x hx
      obtain ⟨j, hj, rfl⟩ := List.getElem_of_mem hx
      simp [h1 j hj]
  have CL : Hid (∀ (x : At) (W : World), K W → Calls Tryz.prog 154 #[.agg #[.int .i64 x.id, .int .i64 x.far, .int .i64 x.gr, .int .i64 x.hd], .pointer (some ⟨Ib, 0, none⟩)] W fun e w' => e = .returned (.bool (p x)) ∧ Below W.heap.size W w') := cl
  have KB : Hid (∀ W W', K W → Below W.heap.size W W' → K W') := hKb
  have KS : Hid (∀ W lb j v, a = some ⟨lb, 0, none⟩ → K W → K (W.setCell ⟨lb, j, none⟩ v)) := hKs
  clear cl hKb hK hKs
  go_enter Tryz.func236, Tryz.ntmps236
  go_wp2_with (go_at_call 169; refine HI.out.mono ?_; rintro e w1 (⟨k, lb, rfl, rfl, hkb, hkp, hK1, hb1⟩ | ⟨rfl, hfl, hb1⟩))
  · have ho1 := hown_below h hb1
    have hlb : lb < w.heap.size := (h.lt lb rfl).2
    have hBl : B ≤ lb := (h.lt lb rfl).1
    clear h HI
    go_loopw [5, 6] (fun iv jv wr => ∃ (i j : Nat) (m : List At), iv = .int .i64 i ∧ jv = .int .i64 j ∧ Kept p l m i j ∧ wr.ownsRow B 283 4 (.slice (some ⟨lb, 0, none⟩) l.length c) l.length (ac m) ∧ K wr ∧ Kp (· = lb) w wr) (fun _ jv _ => l.length - (intOf jv).toNat)
    case atStart => exact ⟨k, k + 1, l, rfl, by go_num, hkp, ho1, hK1, Kp.of_below hb1⟩
    case round =>
      clear hkp ho1 hK1 hb1
      obtain ⟨i, j, m, rfl, rfl, hkp, ho, hKr, hkw⟩ := hrel
      have hml := hkp.len
      have hij := hkp.lt
      by_cases hjl : j < l.length
      · have hmj : j < m.length := by omega
        have hmi : i < m.length := by omega
        have exj : m[j] = l[j] := hkp.rest j hjl hmj (Nat.le_refl _)
        have aj := ac_at m j hmj
        have d0 := (ho.cellAt (j * 4) (by omega)).trans aj.1
        have d1 := (ho.cellAt (j * 4 + 1) (by omega)).trans aj.2.1
        have d2 := (ho.cellAt (j * 4 + 2) (by omega)).trans aj.2.2.1
        have d3 := (ho.cellAt (j * 4 + 3) (by omega)).trans aj.2.2.2
        rw [exj] at d0 d1 d2 d3
        have HC : Hid (Calls Tryz.prog 154 #[.agg #[.int .i64 l[j].id, .int .i64 l[j].far, .int .i64 l[j].gr, .int .i64 l[j].hd], .pointer (some ⟨Ib, 0, none⟩)] (wr.alloc (.cells #[.int .i64 l[j].id, .int .i64 l[j].far, .int .i64 l[j].gr, .int .i64 l[j].hd] 283)) fun e w2 => e = .returned (.bool (p l[j])) ∧ (w2.cell? ⟨wr.heap.size, 0, none⟩ = some (.int .i64 l[j].id) ∧ w2.cell? ⟨wr.heap.size, 1, none⟩ = some (.int .i64 l[j].far) ∧ w2.cell? ⟨wr.heap.size, 2, none⟩ = some (.int .i64 l[j].gr) ∧ w2.cell? ⟨wr.heap.size, 3, none⟩ = some (.int .i64 l[j].hd)) ∧ (∃ u0 u1 u2 u3, w2.cell? ⟨lb, i * 4, none⟩ = some (.int .i64 u0) ∧ w2.cell? ⟨lb, i * 4 + 1, none⟩ = some (.int .i64 u1) ∧ w2.cell? ⟨lb, i * 4 + 2, none⟩ = some (.int .i64 u2) ∧ w2.cell? ⟨lb, i * 4 + 3, none⟩ = some (.int .i64 u3)) ∧ (∀ q, w2.frozen? ⟨lb, q, none⟩ = false) ∧ (K w2 ∧ w2.ownsRow B 283 4 (.slice (some ⟨lb, 0, none⟩) l.length c) l.length (ac m) ∧ Kp (· = lb) w w2) ∧
            (K ((((w2.setCell ⟨lb, i * 4, none⟩ (.int .i64 l[j].id)).setCell ⟨lb, i * 4 + 1, none⟩ (.int .i64 l[j].far)).setCell ⟨lb, i * 4 + 2, none⟩ (.int .i64 l[j].gr)).setCell ⟨lb, i * 4 + 3, none⟩ (.int .i64 l[j].hd)) ∧ ((((w2.setCell ⟨lb, i * 4, none⟩ (.int .i64 l[j].id)).setCell ⟨lb, i * 4 + 1, none⟩ (.int .i64 l[j].far)).setCell ⟨lb, i * 4 + 2, none⟩ (.int .i64 l[j].gr)).setCell ⟨lb, i * 4 + 3, none⟩ (.int .i64 l[j].hd)).ownsRow B 283 4 (.slice (some ⟨lb, 0, none⟩) l.length c) l.length (ac (m.set i l[j])) ∧ Kp (· = lb) w ((((w2.setCell ⟨lb, i * 4, none⟩ (.int .i64 l[j].id)).setCell ⟨lb, i * 4 + 1, none⟩ (.int .i64 l[j].far)).setCell ⟨lb, i * 4 + 2, none⟩ (.int .i64 l[j].gr)).setCell ⟨lb, i * 4 + 3, none⟩ (.int .i64 l[j].hd)))) := by
          have hba : Below wr.heap.size wr (wr.alloc (.cells #[.int .i64 l[j].id, .int .i64 l[j].far, .int .i64 l[j].gr, .int .i64 l[j].hd] 283)) := (Below.refl _ _).alloc (Nat.le_refl _) _
          refine (CL.out l[j] _ (KB.out wr _ hKr hba)).mono ?_
          rintro e w2 ⟨rfl, hb2⟩
          have hK2 := KB.out _ _ (KB.out wr _ hKr hba) hb2
          have ho2 := hown_below (hown_below ho hba) hb2
          have hkw2 : Kp (· = lb) w w2 := (hkw.trans (Kp.of_below (P := (· = lb)) hba) (fun _ _ e => e)).trans (Kp.of_below (P := (· = lb)) hb2) (fun _ _ e => e)
          have hn : ∀ q, q < 4 → w2.cell? ⟨wr.heap.size, q, none⟩ = #[Value.int .i64 l[j].id, .int .i64 l[j].far, .int .i64 l[j].gr, .int .i64 l[j].hd][q]? := fun q hq => by
            rw [hb2.cell (p := ⟨wr.heap.size, q, none⟩) (by simp), World.cell?_alloc_at _ _ _ _ (by simp)]
          have ai := ac_at m i hmi
          refine ⟨rfl, ⟨hn 0 (by omega), hn 1 (by omega), hn 2 (by omega), hn 3 (by omega)⟩, ⟨_, _, _, _, (ho2.cellAt (i * 4) (by omega)).trans ai.1, (ho2.cellAt (i * 4 + 1) (by omega)).trans ai.2.1, (ho2.cellAt (i * 4 + 2) (by omega)).trans ai.2.2.1, (ho2.cellAt (i * 4 + 3) (by omega)).trans ai.2.2.2⟩, fun q => ho2.frozenAt q, ⟨hK2, ho2, hkw2⟩, ?_, ?_, ?_⟩
          · exact KS.out _ lb _ _ rfl (KS.out _ lb _ _ rfl (KS.out _ lb _ _ rfl (KS.out _ lb _ _ rfl hK2)))
          · rw [← ac_put]
            exact ((((ho2.stored _ _).1.stored _ _).1.stored _ _).1.stored _ _).1
          · exact (((hkw2.setCell (fun _ => rfl) _).setCell (fun _ => rfl) _).setCell (fun _ => rfl) _).setCell (fun _ => rfl) _
        have HKD : Hid (p l[j] = true → Kept p l m i (j + 1)) := fun e => hkp.drop hjl e
        have HKK : Hid (p l[j] = false → Kept p l (m.set i l[j]) (i + 1) (j + 1)) := fun e => hkp.keep hjl e
        have hjl' : (j : Int) < (l.length : Int) := by omega
        have hil' : (i : Int) < (l.length : Int) := by omega
        clear hkp ho hKr hkw aj exj CL KB KS
        obtain ⟨r, hr⟩ : ∃ r, r = p l[j] := ⟨_, rfl⟩
        rw [← hr] at HC HKD HKK
        clear hr
        obtain ⟨y, hy⟩ : ∃ y, y = l[j] := ⟨_, rfl⟩
        rw [← hy] at d0 d1 d2 d3 HC HKK
        clear hy
        obtain ⟨yi, yf, yg, yh⟩ := y
        simp only at d0 d1 d2 d3 HC
        cases r with
        | true =>
          go_wp2_with (go_at_call 154; refine HC.out.mono ?_; rintro e w2 ⟨rfl, ⟨n0, n1, n2, n3⟩, ⟨x0, x1, x2, x3, q0, q1, q2, q3⟩, qf, hA, hB2⟩)
          go_roundw
          case rel => exact ⟨_, _, _, _, _, _, _, _, _, _, _, _, _, _, _, _, _, _, _, _, _, _, _, ⟨i, j + 1, m, rfl, by go_num, HKD.out (by simp), hA.2.1, hA.1, hA.2.2⟩, rfl⟩
          case measure => simp [intOf]; omega
        | false =>
          go_wp2_with (go_at_call 154; refine HC.out.mono ?_; rintro e w2 ⟨rfl, ⟨n0, n1, n2, n3⟩, ⟨x0, x1, x2, x3, q0, q1, q2, q3⟩, qf, hA, hB2⟩)
          go_roundw
          case rel => exact ⟨_, _, _, _, _, _, _, _, _, _, _, _, _, _, _, _, _, _, _, _, _, _, _, ⟨i + 1, j + 1, m.set i ⟨yi, yf, yg, yh⟩, by go_num, by go_num, HKK.out (by simp), hB2.2.1, hB2.1, hB2.2.2⟩, rfl⟩
          case measure => simp [intOf]; omega
      · have hdn := hkp.done hjl
        have hil : i < l.length := by have := hkp.le; omega
        have hfl : (l.filter fun x => !p x).length = i := by rw [← hdn, List.length_take]; omega
        have hcap : l.length ≤ c := by
          rcases ho.2 with ⟨hn, _⟩ | ⟨g', cap', cur, hv, hb, hg, hnc, _⟩
          · cases hn
          · simp only [Value.slice.injEq] at hv
            obtain ⟨_, _, rfl⟩ := hv
            exact hnc
        have hclr := fun ty => clearAtts wr ty lb (i * 4) (l.length - i) (c - i) (by omega) (fun q hq => by rw [ho.cellAt (i * 4 + q) (by omega)]; rw [List.getElem?_eq_getElem (by rw [ac_length]; omega)]; rfl) (fun q _ => ho.frozenAt _)
        have HFIN : Hid ((wr.setCells lb (i * 4) (Builtin.zeroCells (Value.agg #[.int .i64 0, .int .i64 0, .int .i64 0, .int .i64 0]).cells (l.length - i)).toList).ownsRow B 283 4 (.slice (some ⟨lb, 0, none⟩) i c) i (ac (l.filter fun x => !p x)) ∧ Kp (fun x => some (⟨lb, 0, none⟩ : Addr) = some ⟨x, 0, none⟩) w (wr.setCells lb (i * 4) (Builtin.zeroCells (Value.agg #[.int .i64 0, .int .i64 0, .int .i64 0, .int .i64 0]).cells (l.length - i)).toList)) := by
          refine ⟨?_, (kp_setCells _ _ _ hkw).weaken (fun x _ e => by rw [e])⟩
          have h1 := own_take ho (m := i) (by omega)
          rw [ac_take, hdn] at h1
          exact own_setCells _ _ _ h1 (Nat.le_refl _)
        have HFL : Hid ((l.filter fun x => !p x).length = i) := hfl
        have hil' : (i : Int) ≤ (l.length : Int) := by omega
        have hlc' : (l.length : Int) ≤ (c : Int) := by omega
        clear hkp ho hKr hkw CL KB KS hdn hfl
        go_wp2
        go_ret
        rw [HFL.out]
        exact ⟨rfl, HFIN.out⟩
  · rw [hfl]
    have ho1 := hown_below h hb1
    clear h HI
    go_ret
    exact ⟨rfl, ho1, Kp.of_below hb1⟩
end Go.Proofs.YtibofakbhgmhiabGreatDoor

namespace Go.Proofs.YtibofakbhgmhiabGreatDoor
open Go.RowKit

/-- attempts of task k are dropped -/
def Bk.dropped (bk : Bk) (cf : Cf) (k : Nat) (t : Tk) (p : At → Bool) : Bk :=
  ⟨bk.ph, bk.ts.set k ⟨t.done, t.gr, t.live.filter fun x => !p x⟩, bk.gs, bk.now, bk.fl || (decide (0 < t.live.length) && ((t.live.filter fun x => !p x).length == 0 && decide (cf.att ≤ (t.gr : Int))))⟩

theorem TsAt.kpDel {B : Nat} {w w1 : World} {g n c : Nat} {ts : List Tk} {vs : List Value} (h : TsAt B w (.slice (some ⟨g, 0, none⟩) n c) ts vs) (k : Nat) (hk : k < ts.length) (hv : k < vs.length) (hkp : Kp (fun i => vs[k].ownBlock = some i) w w1) (l' : List At) (v' : Value) (ho : w1.ownsRow B 283 4 v' l'.length (ac l')) (hb : v'.ownBlock = vs[k].ownBlock) :
    TsAt B (w1.setCell ⟨g, k * 3 + 2, none⟩ v') (.slice (some ⟨g, 0, none⟩) n c) (ts.set k ⟨ts[k].done, ts[k].gr, l'⟩) (vs.set k v') ∧ w1.cell? ⟨g, k * 3 + 2, none⟩ = some vs[k] ∧ (∀ j, w1.frozen? ⟨g, j, none⟩ = false) ∧ Tf w w1 ∧ Below B w w1 := by
  have hlk := h.live k hk hv
  obtain ⟨cur, hg⟩ := h.blk
  have hgn := own_ne hlk hg (by decide)
  have hg1 : w1.heap[g]? = some (.cells cur 205 (0, 0)) := by rw [hkp.block g (lt_of_block hg) hgn]; exact hg
  have hrow := own_kp' h.row hkp (fun i hi e => by
    rcases rows_ne h.row hlk (by decide) with h0 | h0
    · rw [h0] at hi; cases hi
    · exact h0 (by rw [hi, e]))
  have hn := h.n_eq
  subst hn
  refine ⟨⟨?_, by simp [h.len], fun j hj hvj => ?_, fun i j hi hj hij => ?_⟩, ?_, fun j => by simp [World.frozen?, hg1], ⟨hkp.os, hkp.tape, hkp.output, hkp.size, fun x cc t fz hx t1 t2 t3 => ?_⟩, hkp.below (by have := h.row.lt g rfl; omega) (fun x hx e => by have := (hlk.lt x e).1; omega)⟩
  · rw [List.length_set, ← tkc_set2 ts vs k hk l' _ h.len]; exact (hrow.stored _ _).1
  · simp only [List.length_set] at hj hvj
    by_cases e : k = j
    · subst e
      simp only [List.getElem_set_self]
      exact ownsRow_setCell_other ho (own_ne ho hg1 (by decide)) _
    · simp only [List.getElem_set_ne e]
      have := own_kp' (h.live j hj hvj) hkp (fun i hi e' => by
        rcases h.dis j k hvj hv (fun e'' => e e''.symm) with h0 | h0
        · rw [h0] at hi; cases hi
        · exact h0 (by rw [hi, e']))
      exact ownsRow_setCell_other this (own_ne this hg1 (by decide)) _
  · simp only [List.length_set] at hi hj
    by_cases e1 : k = i
    · subst e1
      simp only [List.getElem_set_self, List.getElem_set_ne hij, hb]
      exact h.dis k j hi hj hij
    · by_cases e2 : k = j
      · subst e2
        simp only [List.getElem_set_self, List.getElem_set_ne e1, hb]
        exact h.dis i k hi hj hij
      · simp only [List.getElem_set_ne e1, List.getElem_set_ne e2]
        exact h.dis i j hi hj hij
  · have a := tkc_at ts vs k hk hv
    rw [hrow.cellAt (k * 3 + 2) (by omega)]
    exact a.2.2
  · rw [hkp.block x (lt_of_block hx) (own_ne hlk hx (fun e => t3 e.symm))]; exact hx
theorem TbAt.setFl {B Tb : Nat} {st : Int} {cf : Cf} {w : World} {bk : Bk} {tv : Value} {vs : List Value} (h : TbAt B Tb st cf w bk tv vs) (x : Bool) : TbAt B Tb st cf (w.setCell ⟨Tb, 14, none⟩ (.bool x)) ⟨bk.ph, bk.ts, bk.gs, bk.now, x⟩ tv vs := by
  have b := h.blk
  refine ⟨?_, h.ts.other h.blk (by decide) (by decide) _⟩
  simp only [World.setCell, Array.getElem?_modify, if_true, b]
  simp

set_option maxHeartbeats 2000000 in
set_option maxRecDepth 100000 in
theorem dropFail {B Tb : Nat} {st : Int} {cf : Cf} {w : World} {bk : Bk} {g n c : Nat} {vs : List Value} (h : TbAt B Tb st cf w bk (.slice (some ⟨g, 0, none⟩) n c) vs) (hB : B ≤ Tb) (k : Nat) (hk : k < bk.ts.length) (hv : k < vs.length) (hll : bk.ts[k].live.length ≤ 1048576) (Ib : Nat) (p : At → Bool) (K : World → Prop) (hK : K w) (hKb : ∀ W W', K W → Below W.heap.size W W' → K W') (hKs : ∀ W lb j v, vs[k].ownBlock = some lb → K W → K (W.setCell ⟨lb, j, none⟩ v)) (cl : ∀ (x : At) (W : World), K W → Calls Tryz.prog 235 #[.agg #[.int .i64 x.id, .int .i64 x.far, .int .i64 x.gr, .int .i64 x.hd], .pointer (some ⟨Ib, 0, none⟩)] W fun e w' => e = .returned (.bool (p x)) ∧ Below W.heap.size W w') :
    Calls Tryz.prog 153 #[.pointer (some ⟨Tb, 2, none⟩), .pointer (some ⟨g, k * 3, none⟩), .func (.func 235) #[] #[.pointer (some ⟨Ib, 0, none⟩)]] w fun e w' => e = .returned (.tuple #[]) ∧ (∃ vs', TbAt B Tb st cf w' (bk.dropped cf k bk.ts[k] p) (.slice (some ⟨g, 0, none⟩) n c) vs') ∧ Below B w w' ∧ Tf w w' := by
  have hTl := lt_of_block h.blk
  obtain ⟨d0, d1, d2⟩ := h.ts.cells k hk
  have ho := h.ts.live k hk hv
  obtain ⟨la, lc, elv⟩ := hown_slice ho
  have hsp : la = none ∨ ∃ lb, la = some ⟨lb, 0, none⟩ := by
    rw [elv] at ho
    rcases ho.2 with ⟨hn, _⟩ | ⟨g', cap', cur, hv', _⟩
    · simp only [Value.slice.injEq] at hn; exact .inl hn.1
    · simp only [Value.slice.injEq] at hv'; exact .inr ⟨g', hv'.1⟩
  rw [elv] at d2 ho
  have hown : ∀ m i, (Value.slice la m lc).ownBlock = some i ↔ la = some ⟨i, 0, none⟩ := by
    intro m i
    rcases hsp with rfl | ⟨lb, rfl⟩
    · simp [Value.ownBlock]
    · simp [Value.ownBlock]
  have HD : Hid (Calls Tryz.prog 236 #[.slice la bk.ts[k].live.length lc, .func (.func 235) #[] #[.pointer (some ⟨Ib, 0, none⟩)]] w fun e w1 => e = .returned (.slice la (bk.ts[k].live.filter fun x => !p x).length lc) ∧ w1.cell? ⟨g, k * 3 + 2, none⟩ = some (.slice la bk.ts[k].live.length lc) ∧ (∀ j, w1.frozen? ⟨g, j, none⟩ = false) ∧
      ((w1.setCell ⟨g, k * 3 + 2, none⟩ (.slice la (bk.ts[k].live.filter fun x => !p x).length lc)).cell? ⟨g, k * 3 + 2, none⟩ = some (.slice la (bk.ts[k].live.filter fun x => !p x).length lc) ∧ (w1.setCell ⟨g, k * 3 + 2, none⟩ (.slice la (bk.ts[k].live.filter fun x => !p x).length lc)).cell? ⟨g, k * 3 + 1, none⟩ = some (.int .i64 bk.ts[k].gr) ∧ (w1.setCell ⟨g, k * 3 + 2, none⟩ (.slice la (bk.ts[k].live.filter fun x => !p x).length lc)).cell? ⟨Tb, 5, none⟩ = some (.int .i64 cf.att) ∧ (w1.setCell ⟨g, k * 3 + 2, none⟩ (.slice la (bk.ts[k].live.filter fun x => !p x).length lc)).cell? ⟨Tb, 14, none⟩ = some (.bool bk.fl) ∧ (∀ j, (w1.setCell ⟨g, k * 3 + 2, none⟩ (.slice la (bk.ts[k].live.filter fun x => !p x).length lc)).frozen? ⟨Tb, j, none⟩ = false)) ∧
      TbAt B Tb st cf (w1.setCell ⟨g, k * 3 + 2, none⟩ (.slice la (bk.ts[k].live.filter fun x => !p x).length lc)) ⟨bk.ph, bk.ts.set k ⟨bk.ts[k].done, bk.ts[k].gr, bk.ts[k].live.filter fun x => !p x⟩, bk.gs, bk.now, bk.fl⟩ (.slice (some ⟨g, 0, none⟩) n c) (vs.set k (.slice la (bk.ts[k].live.filter fun x => !p x).length lc)) ∧ Below B w (w1.setCell ⟨g, k * 3 + 2, none⟩ (.slice la (bk.ts[k].live.filter fun x => !p x).length lc)) ∧ Tf w (w1.setCell ⟨g, k * 3 + 2, none⟩ (.slice la (bk.ts[k].live.filter fun x => !p x).length lc))) := by
    refine (delFail ho hll Ib p K hK hKb (fun W lb j v e hW => hKs W lb j v (by rw [elv]; exact (hown _ _).2 e) hW) cl).mono ?_
    rintro e w1 ⟨rfl, ho1, hkp⟩
    have hkp' : Kp (fun i => vs[k].ownBlock = some i) w w1 := hkp.weaken (fun i _ e => by rw [elv]; exact (hown _ _).2 e)
    obtain ⟨hT, hc, hf, ht1, hb1⟩ := h.ts.kpDel k hk hv hkp' _ (.slice la (bk.ts[k].live.filter fun x => !p x).length lc) ho1 (by
      rw [elv]
      rcases hsp with rfl | ⟨lb, rfl⟩ <;> rfl)
    have hTb1 : w1.heap[Tb]? = w.heap[Tb]? := hkp'.block Tb hTl (h.apart.2 k hv).1
    have hne := h.apart.1
    have hfin := h.onTs hT (by rw [Below.heap_setCell _ _ _ _ hne]; exact hTb1)
    obtain ⟨x10, x11, x12, x13, x14, xf⟩ := hfin.cells
    have hks : k < (bk.ts.set k ⟨bk.ts[k].done, bk.ts[k].gr, bk.ts[k].live.filter fun x => !p x⟩).length := by simpa using hk
    obtain ⟨y0, y1, y2⟩ := hfin.ts.cells k hks
    simp only [List.getElem_set_self] at y1 y2
    have x5 : (w1.setCell ⟨g, k * 3 + 2, none⟩ (.slice la (bk.ts[k].live.filter fun x => !p x).length lc)).cell? ⟨Tb, 5, none⟩ = some (.int .i64 cf.att) := by simp [World.cell?, hfin.blk]
    rw [elv] at hc
    have hgB : B ≤ g := (h.ts.row.lt g rfl).1
    obtain ⟨cur, hgc⟩ := h.ts.blk
    obtain ⟨cur1, hg1⟩ : ∃ cur1, w1.heap[g]? = some (.cells cur1 205 (0, 0)) := ⟨cur, by rw [hkp'.block g (lt_of_block hgc) (h.apart.2 k hv).2]; exact hgc⟩
    exact ⟨rfl, hc, hf, ⟨y2, y1, x5, x14, xf⟩, hfin, hb1.setCell (p := ⟨g, k * 3 + 2, none⟩) hgB _, ht1.setCell hg1 (.inr (.inl rfl)) _⟩
  have HB : Hid (∀ q : Bool, q = (decide (0 < bk.ts[k].live.length) && ((bk.ts[k].live.filter fun x => !p x).length == 0 && decide (cf.att ≤ (bk.ts[k].gr : Int)))) → bk.dropped cf k bk.ts[k] p = ⟨bk.ph, bk.ts.set k ⟨bk.ts[k].done, bk.ts[k].gr, bk.ts[k].live.filter fun x => !p x⟩, bk.gs, bk.now, bk.fl || q⟩) := by
    rintro q rfl; rfl
  clear h ho cl hKb hKs hK hown hsp elv d0 d1
  have HFN : Hid (∀ (W : World) (vs' : List Value) (q : Nat), TbAt B Tb st cf W ⟨bk.ph, bk.ts.set k ⟨bk.ts[k].done, bk.ts[k].gr, bk.ts[k].live.filter fun x => !p x⟩, bk.gs, bk.now, bk.fl⟩ (.slice (some ⟨g, 0, none⟩) n c) vs' → Below B w W → Tf w W → (((decide (0 < bk.ts[k].live.length) && ((bk.ts[k].live.filter fun x => !p x).length == 0 && decide (cf.att ≤ (bk.ts[k].gr : Int)))) = false → (∃ vs', TbAt B Tb st cf (W.drewN q) (bk.dropped cf k bk.ts[k] p) (.slice (some ⟨g, 0, none⟩) n c) vs') ∧ Below B w (W.drewN q) ∧ Tf w (W.drewN q)) ∧ ((decide (0 < bk.ts[k].live.length) && ((bk.ts[k].live.filter fun x => !p x).length == 0 && decide (cf.att ≤ (bk.ts[k].gr : Int)))) = true → (∃ vs', TbAt B Tb st cf ((W.setCell ⟨Tb, 14, none⟩ (.bool true)).drewN q) (bk.dropped cf k bk.ts[k] p) (.slice (some ⟨g, 0, none⟩) n c) vs') ∧ Below B w ((W.setCell ⟨Tb, 14, none⟩ (.bool true)).drewN q) ∧ Tf w ((W.setCell ⟨Tb, 14, none⟩ (.bool true)).drewN q)))) := by
    intro W vs' q hT hb ht
    constructor
    · intro e
      refine ⟨⟨vs', ?_⟩, below_drewN hb q, ht.drewN q⟩
      rw [HB.out false e.symm, Bool.or_false]
      exact hT.below (below_drewN (Below.refl _ _) q)
    · intro e
      refine ⟨⟨vs', ?_⟩, below_drewN (hb.setCell (p := ⟨Tb, 14, none⟩) hB _) q, (ht.setCell hT.blk (.inl rfl) _).drewN q⟩
      rw [HB.out true e.symm, Bool.or_true]
      exact (hT.setFl true).below (below_drewN (Below.refl _ _) q)
  clear HB
  generalize (bk.ts[k].live.filter fun x => !p x).length = n1 at *
  generalize bk.ts[k].live.length = n0 at *
  generalize bk.ts[k].gr = gr at *
  have hcase : n0 = 0 ∨ (0 < n0 ∧ n1 ≠ 0) ∨ (0 < n0 ∧ n1 = 0 ∧ ¬ cf.att ≤ (gr : Int)) ∨ (0 < n0 ∧ n1 = 0 ∧ cf.att ≤ (gr : Int)) := by omega
  rcases hcase with e0 | ⟨e0, e1⟩ | ⟨e0, e1, e2⟩ | ⟨e0, e1, e2⟩
  · subst e0
    go_enter Tryz.func153, Tryz.ntmps153
    go_wp2_with (go_at_call 236; refine HD.out.mono ?_; rintro e w1 ⟨rfl, q1, q2, ⟨q3, q4, q5, q6, q7⟩, hT, hb, ht⟩)
    go_quiet (fail)
    go_wp2
    first | go_end0 | refine bodyPost_ret (results_none rfl _ _ _) rfl ?_
    exact ⟨rfl, (HFN.out _ _ _ hT hb ht).1 (by simp)⟩
  · have d0 : decide (0 < n0) = true := by simpa using e0
    have d0' : decide ((0 : Int) < (n0 : Int)) = true := by simp; omega
    have d1 : ((n1 : Int) == 0) = false := by simp; omega
    go_enter Tryz.func153, Tryz.ntmps153
    go_wp2_with (go_at_call 236; refine HD.out.mono ?_; rintro e w1 ⟨rfl, q1, q2, ⟨q3, q4, q5, q6, q7⟩, hT, hb, ht⟩)
    go_quiet (fail)
    go_wp2
    first | go_end0 | refine bodyPost_ret (results_none rfl _ _ _) rfl ?_
    exact ⟨rfl, (HFN.out _ _ _ hT hb ht).1 (by simp [e1])⟩
  · subst e1
    have d0 : decide (0 < n0) = true := by simpa using e0
    have d0' : decide ((0 : Int) < (n0 : Int)) = true := by simp; omega
    have d2 : decide (cf.att ≤ (gr : Int)) = false := by simp; omega
    go_enter Tryz.func153, Tryz.ntmps153
    go_wp2_with (go_at_call 236; refine HD.out.mono ?_; rintro e w1 ⟨rfl, q1, q2, ⟨q3, q4, q5, q6, q7⟩, hT, hb, ht⟩)
    go_quiet (fail)
    go_wp2
    first | go_end0 | refine bodyPost_ret (results_none rfl _ _ _) rfl ?_
    exact ⟨rfl, (HFN.out _ _ _ hT hb ht).1 (by simp [d2])⟩
  · subst e1
    have d0 : decide (0 < n0) = true := by simpa using e0
    have d0' : decide ((0 : Int) < (n0 : Int)) = true := by simp; omega
    have d2 : decide (cf.att ≤ (gr : Int)) = true := by simpa using e2
    go_enter Tryz.func153, Tryz.ntmps153
    go_wp2_with (go_at_call 236; refine HD.out.mono ?_; rintro e w1 ⟨rfl, q1, q2, ⟨q3, q4, q5, q6, q7⟩, hT, hb, ht⟩)
    go_quiet (fail)
    go_wp2
    first | go_end0 | refine bodyPost_ret (results_none rfl _ _ _) rfl ?_
    exact ⟨rfl, (HFN.out _ _ _ hT hb ht).2 (by simp [d0, d2])⟩

set_option maxHeartbeats 2000000 in
set_option maxRecDepth 100000 in
theorem dropTick {B Tb : Nat} {st : Int} {cf : Cf} {w : World} {bk : Bk} {g n c : Nat} {vs : List Value} (h : TbAt B Tb st cf w bk (.slice (some ⟨g, 0, none⟩) n c) vs) (hB : B ≤ Tb) (k : Nat) (hk : k < bk.ts.length) (hv : k < vs.length) (hll : bk.ts[k].live.length ≤ 1048576) (Ib : Nat) (p : At → Bool) (K : World → Prop) (hK : K w) (hKb : ∀ W W', K W → Below W.heap.size W W' → K W') (hKs : ∀ W lb j v, vs[k].ownBlock = some lb → K W → K (W.setCell ⟨lb, j, none⟩ v)) (cl : ∀ (x : At) (W : World), K W → Calls Tryz.prog 154 #[.agg #[.int .i64 x.id, .int .i64 x.far, .int .i64 x.gr, .int .i64 x.hd], .pointer (some ⟨Ib, 0, none⟩)] W fun e w' => e = .returned (.bool (p x)) ∧ Below W.heap.size W w') :
    Calls Tryz.prog 153 #[.pointer (some ⟨Tb, 2, none⟩), .pointer (some ⟨g, k * 3, none⟩), .func (.func 154) #[] #[.pointer (some ⟨Ib, 0, none⟩)]] w fun e w' => e = .returned (.tuple #[]) ∧ (∃ vs', TbAt B Tb st cf w' (bk.dropped cf k bk.ts[k] p) (.slice (some ⟨g, 0, none⟩) n c) vs') ∧ Below B w w' ∧ Tf w w' := by
  have hTl := lt_of_block h.blk
  obtain ⟨d0, d1, d2⟩ := h.ts.cells k hk
  have ho := h.ts.live k hk hv
  obtain ⟨la, lc, elv⟩ := hown_slice ho
  have hsp : la = none ∨ ∃ lb, la = some ⟨lb, 0, none⟩ := by
    rw [elv] at ho
    rcases ho.2 with ⟨hn, _⟩ | ⟨g', cap', cur, hv', _⟩
    · simp only [Value.slice.injEq] at hn; exact .inl hn.1
    · simp only [Value.slice.injEq] at hv'; exact .inr ⟨g', hv'.1⟩
  rw [elv] at d2 ho
  have hown : ∀ m i, (Value.slice la m lc).ownBlock = some i ↔ la = some ⟨i, 0, none⟩ := by
    intro m i
    rcases hsp with rfl | ⟨lb, rfl⟩
    · simp [Value.ownBlock]
    · simp [Value.ownBlock]
  have HD : Hid (Calls Tryz.prog 236 #[.slice la bk.ts[k].live.length lc, .func (.func 154) #[] #[.pointer (some ⟨Ib, 0, none⟩)]] w fun e w1 => e = .returned (.slice la (bk.ts[k].live.filter fun x => !p x).length lc) ∧ w1.cell? ⟨g, k * 3 + 2, none⟩ = some (.slice la bk.ts[k].live.length lc) ∧ (∀ j, w1.frozen? ⟨g, j, none⟩ = false) ∧
      ((w1.setCell ⟨g, k * 3 + 2, none⟩ (.slice la (bk.ts[k].live.filter fun x => !p x).length lc)).cell? ⟨g, k * 3 + 2, none⟩ = some (.slice la (bk.ts[k].live.filter fun x => !p x).length lc) ∧ (w1.setCell ⟨g, k * 3 + 2, none⟩ (.slice la (bk.ts[k].live.filter fun x => !p x).length lc)).cell? ⟨g, k * 3 + 1, none⟩ = some (.int .i64 bk.ts[k].gr) ∧ (w1.setCell ⟨g, k * 3 + 2, none⟩ (.slice la (bk.ts[k].live.filter fun x => !p x).length lc)).cell? ⟨Tb, 5, none⟩ = some (.int .i64 cf.att) ∧ (w1.setCell ⟨g, k * 3 + 2, none⟩ (.slice la (bk.ts[k].live.filter fun x => !p x).length lc)).cell? ⟨Tb, 14, none⟩ = some (.bool bk.fl) ∧ (∀ j, (w1.setCell ⟨g, k * 3 + 2, none⟩ (.slice la (bk.ts[k].live.filter fun x => !p x).length lc)).frozen? ⟨Tb, j, none⟩ = false)) ∧
      TbAt B Tb st cf (w1.setCell ⟨g, k * 3 + 2, none⟩ (.slice la (bk.ts[k].live.filter fun x => !p x).length lc)) ⟨bk.ph, bk.ts.set k ⟨bk.ts[k].done, bk.ts[k].gr, bk.ts[k].live.filter fun x => !p x⟩, bk.gs, bk.now, bk.fl⟩ (.slice (some ⟨g, 0, none⟩) n c) (vs.set k (.slice la (bk.ts[k].live.filter fun x => !p x).length lc)) ∧ Below B w (w1.setCell ⟨g, k * 3 + 2, none⟩ (.slice la (bk.ts[k].live.filter fun x => !p x).length lc)) ∧ Tf w (w1.setCell ⟨g, k * 3 + 2, none⟩ (.slice la (bk.ts[k].live.filter fun x => !p x).length lc))) := by
    refine (delTick ho hll Ib p K hK hKb (fun W lb j v e hW => hKs W lb j v (by rw [elv]; exact (hown _ _).2 e) hW) cl).mono ?_
    rintro e w1 ⟨rfl, ho1, hkp⟩
    have hkp' : Kp (fun i => vs[k].ownBlock = some i) w w1 := hkp.weaken (fun i _ e => by rw [elv]; exact (hown _ _).2 e)
    obtain ⟨hT, hc, hf, ht1, hb1⟩ := h.ts.kpDel k hk hv hkp' _ (.slice la (bk.ts[k].live.filter fun x => !p x).length lc) ho1 (by
      rw [elv]
      rcases hsp with rfl | ⟨lb, rfl⟩ <;> rfl)
    have hTb1 : w1.heap[Tb]? = w.heap[Tb]? := hkp'.block Tb hTl (h.apart.2 k hv).1
    have hne := h.apart.1
    have hfin := h.onTs hT (by rw [Below.heap_setCell _ _ _ _ hne]; exact hTb1)
    obtain ⟨x10, x11, x12, x13, x14, xf⟩ := hfin.cells
    have hks : k < (bk.ts.set k ⟨bk.ts[k].done, bk.ts[k].gr, bk.ts[k].live.filter fun x => !p x⟩).length := by simpa using hk
    obtain ⟨y0, y1, y2⟩ := hfin.ts.cells k hks
    simp only [List.getElem_set_self] at y1 y2
    have x5 : (w1.setCell ⟨g, k * 3 + 2, none⟩ (.slice la (bk.ts[k].live.filter fun x => !p x).length lc)).cell? ⟨Tb, 5, none⟩ = some (.int .i64 cf.att) := by simp [World.cell?, hfin.blk]
    rw [elv] at hc
    have hgB : B ≤ g := (h.ts.row.lt g rfl).1
    obtain ⟨cur, hgc⟩ := h.ts.blk
    obtain ⟨cur1, hg1⟩ : ∃ cur1, w1.heap[g]? = some (.cells cur1 205 (0, 0)) := ⟨cur, by rw [hkp'.block g (lt_of_block hgc) (h.apart.2 k hv).2]; exact hgc⟩
    exact ⟨rfl, hc, hf, ⟨y2, y1, x5, x14, xf⟩, hfin, hb1.setCell (p := ⟨g, k * 3 + 2, none⟩) hgB _, ht1.setCell hg1 (.inr (.inl rfl)) _⟩
  have HB : Hid (∀ q : Bool, q = (decide (0 < bk.ts[k].live.length) && ((bk.ts[k].live.filter fun x => !p x).length == 0 && decide (cf.att ≤ (bk.ts[k].gr : Int)))) → bk.dropped cf k bk.ts[k] p = ⟨bk.ph, bk.ts.set k ⟨bk.ts[k].done, bk.ts[k].gr, bk.ts[k].live.filter fun x => !p x⟩, bk.gs, bk.now, bk.fl || q⟩) := by
    rintro q rfl; rfl
  clear h ho cl hKb hKs hK hown hsp elv d0 d1
  have HFN : Hid (∀ (W : World) (vs' : List Value) (q : Nat), TbAt B Tb st cf W ⟨bk.ph, bk.ts.set k ⟨bk.ts[k].done, bk.ts[k].gr, bk.ts[k].live.filter fun x => !p x⟩, bk.gs, bk.now, bk.fl⟩ (.slice (some ⟨g, 0, none⟩) n c) vs' → Below B w W → Tf w W → (((decide (0 < bk.ts[k].live.length) && ((bk.ts[k].live.filter fun x => !p x).length == 0 && decide (cf.att ≤ (bk.ts[k].gr : Int)))) = false → (∃ vs', TbAt B Tb st cf (W.drewN q) (bk.dropped cf k bk.ts[k] p) (.slice (some ⟨g, 0, none⟩) n c) vs') ∧ Below B w (W.drewN q) ∧ Tf w (W.drewN q)) ∧ ((decide (0 < bk.ts[k].live.length) && ((bk.ts[k].live.filter fun x => !p x).length == 0 && decide (cf.att ≤ (bk.ts[k].gr : Int)))) = true → (∃ vs', TbAt B Tb st cf ((W.setCell ⟨Tb, 14, none⟩ (.bool true)).drewN q) (bk.dropped cf k bk.ts[k] p) (.slice (some ⟨g, 0, none⟩) n c) vs') ∧ Below B w ((W.setCell ⟨Tb, 14, none⟩ (.bool true)).drewN q) ∧ Tf w ((W.setCell ⟨Tb, 14, none⟩ (.bool true)).drewN q)))) := by
    intro W vs' q hT hb ht
    constructor
    · intro e
      refine ⟨⟨vs', ?_⟩, below_drewN hb q, ht.drewN q⟩
      rw [HB.out false e.symm, Bool.or_false]
      exact hT.below (below_drewN (Below.refl _ _) q)
    · intro e
      refine ⟨⟨vs', ?_⟩, below_drewN (hb.setCell (p := ⟨Tb, 14, none⟩) hB _) q, (ht.setCell hT.blk (.inl rfl) _).drewN q⟩
      rw [HB.out true e.symm, Bool.or_true]
      exact (hT.setFl true).below (below_drewN (Below.refl _ _) q)
  clear HB
  generalize (bk.ts[k].live.filter fun x => !p x).length = n1 at *
  generalize bk.ts[k].live.length = n0 at *
  generalize bk.ts[k].gr = gr at *
  have hcase : n0 = 0 ∨ (0 < n0 ∧ n1 ≠ 0) ∨ (0 < n0 ∧ n1 = 0 ∧ ¬ cf.att ≤ (gr : Int)) ∨ (0 < n0 ∧ n1 = 0 ∧ cf.att ≤ (gr : Int)) := by omega
  rcases hcase with e0 | ⟨e0, e1⟩ | ⟨e0, e1, e2⟩ | ⟨e0, e1, e2⟩
  · subst e0
    go_enter Tryz.func153, Tryz.ntmps153
    go_wp2_with (go_at_call 236; refine HD.out.mono ?_; rintro e w1 ⟨rfl, q1, q2, ⟨q3, q4, q5, q6, q7⟩, hT, hb, ht⟩)
    go_quiet (fail)
    go_wp2
    first | go_end0 | refine bodyPost_ret (results_none rfl _ _ _) rfl ?_
    exact ⟨rfl, (HFN.out _ _ _ hT hb ht).1 (by simp)⟩
  · have d0 : decide (0 < n0) = true := by simpa using e0
    have d0' : decide ((0 : Int) < (n0 : Int)) = true := by simp; omega
    have d1 : ((n1 : Int) == 0) = false := by simp; omega
    go_enter Tryz.func153, Tryz.ntmps153
    go_wp2_with (go_at_call 236; refine HD.out.mono ?_; rintro e w1 ⟨rfl, q1, q2, ⟨q3, q4, q5, q6, q7⟩, hT, hb, ht⟩)
    go_quiet (fail)
    go_wp2
    first | go_end0 | refine bodyPost_ret (results_none rfl _ _ _) rfl ?_
    exact ⟨rfl, (HFN.out _ _ _ hT hb ht).1 (by simp [e1])⟩
  · subst e1
    have d0 : decide (0 < n0) = true := by simpa using e0
    have d0' : decide ((0 : Int) < (n0 : Int)) = true := by simp; omega
    have d2 : decide (cf.att ≤ (gr : Int)) = false := by simp; omega
    go_enter Tryz.func153, Tryz.ntmps153
    go_wp2_with (go_at_call 236; refine HD.out.mono ?_; rintro e w1 ⟨rfl, q1, q2, ⟨q3, q4, q5, q6, q7⟩, hT, hb, ht⟩)
    go_quiet (fail)
    go_wp2
    first | go_end0 | refine bodyPost_ret (results_none rfl _ _ _) rfl ?_
    exact ⟨rfl, (HFN.out _ _ _ hT hb ht).1 (by simp [d2])⟩
  · subst e1
    have d0 : decide (0 < n0) = true := by simpa using e0
    have d0' : decide ((0 : Int) < (n0 : Int)) = true := by simp; omega
    have d2 : decide (cf.att ≤ (gr : Int)) = true := by simpa using e2
    go_enter Tryz.func153, Tryz.ntmps153
    go_wp2_with (go_at_call 236; refine HD.out.mono ?_; rintro e w1 ⟨rfl, q1, q2, ⟨q3, q4, q5, q6, q7⟩, hT, hb, ht⟩)
    go_quiet (fail)
    go_wp2
    first | go_end0 | refine bodyPost_ret (results_none rfl _ _ _) rfl ?_
    exact ⟨rfl, (HFN.out _ _ _ hT hb ht).2 (by simp [d0, d2])⟩
end Go.Proofs.YtibofakbhgmhiabGreatDoor

namespace Go.Proofs.YtibofakbhgmhiabGreatDoor
open Go.RowKit

theorem fail1 (a : At) (Ib : Nat) (x : Int) (w : World) (h : w.cell? ⟨Ib, 0, none⟩ = some (.int .i64 x)) :
    Calls Tryz.prog 235 #[.agg #[.int .i64 a.id, .int .i64 a.far, .int .i64 a.gr, .int .i64 a.hd], .pointer (some ⟨Ib, 0, none⟩)] w fun e w' => e = .returned (.bool ((a.id : Int) == x)) ∧ Below w.heap.size w w' := by
  have hb : Below w.heap.size w (w.alloc (.cells #[.int .i64 a.id, .int .i64 a.far, .int .i64 a.gr, .int .i64 a.hd] 283)) := (Below.refl _ _).alloc (Nat.le_refl _) _
  have h1 := (World.cell?_alloc_lt w (.cells #[.int .i64 a.id, .int .i64 a.far, .int .i64 a.gr, .int .i64 a.hd] 283) _ (hp_lt h)).trans h
  obtain ⟨i, f, g, hd⟩ := a
  simp only at hb h1 ⊢
  go_enter Tryz.func235, Tryz.ntmps235
  go_wp2
  go_ret
  exact ⟨rfl, hb⟩


set_option maxHeartbeats 2000000 in
set_option maxRecDepth 100000 in
theorem fail {B Tb : Nat} {st : Int} {cf : Cf} {w : World} {bk : Bk} {a : Option Addr} {c : Nat} {vs : List Value} (h : TbAt B Tb st cf w bk (.slice a bk.ts.length c) vs) (hB : B ≤ Tb) (id : Int) (p5 p6 : Addr) (h5 : w.cell? ⟨5, 0, none⟩ = some (.iface 513 (.pointer (some p5)))) (h6 : w.cell? ⟨6, 0, none⟩ = some (.iface 513 (.pointer (some p6)))) (hl : bk.ts.length ≤ 1048576) (hal : ∀ t ∈ bk.ts, t.live.length ≤ 1048576) :
    Calls Tryz.prog 152 #[.pointer (some ⟨Tb, 2, none⟩), .int .i64 id] w fun e w' => (bk.no id p5 p6 e ∧ Below w.heap.size w w') ∨
      ((1 ≤ id ∧ id ≤ bk.gs) ∧ e = .returned .nilIface ∧ ∃ k i, bk.has id k i ∧ ∃ hk : k < bk.ts.length, (∃ tv' vs', TbAt B Tb st cf w' (bk.dropped cf k bk.ts[k] (fun x => (x.id : Int) == id)) tv' vs') ∧ Below B w w' ∧ Tf w w') := by
  have hmf : ∀ (fn : Fn) (first cap : Array Value) (w : World), (Instr.makeFunc fn first cap).run Tryz.prog w = .ok (.func fn first cap) w := fun _ _ _ _ => rfl
  have hb0 : Below w.heap.size w (w.alloc (.cells #[.int .i64 id] 3)) := (Below.refl _ _).alloc (Nat.le_refl _) _
  have hT0 := h.below hb0
  have hTl := lt_of_block h.blk
  have e5 := (World.cell?_alloc_lt w (.cells #[.int .i64 id] 3) _ (hp_lt h5)).trans h5
  have e6 := (World.cell?_alloc_lt w (.cells #[.int .i64 id] 3) _ (hp_lt h6)).trans h6
  have ci : (w.alloc (.cells #[.int .i64 id] 3)).cell? ⟨w.heap.size, 0, none⟩ = some (.int .i64 id) := by rw [World.cell?_alloc_at _ _ _ _ (by simp)]; rfl
  have HG : Hid (Calls Tryz.prog 100 #[.pointer (some ⟨Tb, 2, none⟩), .int .i64 id] (w.alloc (.cells #[.int .i64 id] 3)) fun e w1 => (∃ p, e = .returned (.tuple #[.pointer none, .int .i64 0, .iface 513 (.pointer (some p))]) ∧ bk.no id p5 p6 (.returned (.iface 513 (.pointer (some p)))) ∧ Below w.heap.size w w1) ∨ (∃ g k i, e = .returned (.tuple #[.pointer (some ⟨g, k * 3, none⟩), .int .i64 (i : Nat), .nilIface]) ∧ (1 ≤ id ∧ id ≤ bk.gs) ∧ bk.has id k i ∧
      Calls Tryz.prog 153 #[.pointer (some ⟨Tb, 2, none⟩), .pointer (some ⟨g, k * 3, none⟩), .func (.func 235) #[] #[.pointer (some ⟨w.heap.size, 0, none⟩)]] w1 fun e w' => e = .returned (.tuple #[]) ∧ ∃ hk : k < bk.ts.length, (∃ tv' vs', TbAt B Tb st cf w' (bk.dropped cf k bk.ts[k] (fun x => (x.id : Int) == id)) tv' vs') ∧ Below B w w' ∧ Tf w w')) := by
    refine (findS hT0 id p5 p6 e5 e6 hl hal).mono ?_
    rintro e w1 ⟨hr, hb1⟩
    have hbw : Below w.heap.size w w1 := hb0.trans (hb1.mono (by simp))
    rcases hr with ⟨p, hno, rfl⟩ | ⟨hin, g, k, i, rfl, ⟨hk, hi, hid⟩, rfl⟩
    · exact .inl ⟨p, rfl, hno, hbw⟩
    · refine .inr ⟨g, k, i, rfl, hin, ⟨hk, hi, hid⟩, ?_⟩
      have h1 := hT0.below hb1
      have hv : k < vs.length := by rw [h.ts.len]; exact hk
      have hlk := h.ts.live k hk hv
      refine (dropFail h1 hB k hk hv (hal _ (List.getElem_mem hk)) w.heap.size (fun x => (x.id : Int) == id) (fun W => W.cell? ⟨w.heap.size, 0, none⟩ = some (.int .i64 id)) ((hb1.cell (p := ⟨w.heap.size, 0, none⟩) (by simp)).trans ci) (fun W W' hW hb => (hb.cell (hp_lt hW)).trans hW) (fun W lb j v e hW => ?_) (fun x W hW => fail1 x w.heap.size id W hW)).mono ?_
      · have := (hlk.lt lb e).2
        have hne : w.heap.size ≠ lb := by omega
        show (W.setCell ⟨lb, j, none⟩ v).cell? ⟨w.heap.size, 0, none⟩ = some (.int .i64 id)
        have e2 : (W.setCell ⟨lb, j, none⟩ v).heap[w.heap.size]? = W.heap[w.heap.size]? := Below.heap_setCell W ⟨lb, j, none⟩ v w.heap.size hne
        simp only [World.cell?, e2]
        simpa only [World.cell?] using hW
      · rintro e w3 ⟨rfl, ⟨vs', hT⟩, hb3, ht3⟩
        exact ⟨rfl, hk, ⟨_, vs', hT⟩, (hbw.mono (by omega)).trans hb3, (Tf.of_below hbw).trans ht3⟩
  clear h hT0 hal h5 h6 e5 e6
  go_enter Tryz.func152, Tryz.ntmps152
  go_wp2_with (go_at_call 100; refine HG.out.mono ?_; rintro e w1 (⟨p, rfl, hno, hb1⟩ | ⟨g, k, i, rfl, hin, hha, q3⟩))
  · go_ret
    exact .inl ⟨hno, hb1⟩
  · have HE : Hid (Calls Tryz.prog 153 _ _ _) := q3
    have HHA : Hid (bk.has id k i) := hha
    have HIN : Hid (1 ≤ id ∧ id ≤ bk.gs) := hin
    clear q3 hha hin
    go_wp2_with (go_at_call 153; refine HE.out.mono ?_; rintro e w3 ⟨rfl, hk, hfin⟩)
    go_ret
    exact .inr ⟨HIN.out, rfl, k, i, HHA.out, hk, hfin⟩
end Go.Proofs.YtibofakbhgmhiabGreatDoor

namespace Go.Proofs.YtibofakbhgmhiabGreatDoor
open Go.RowKit

/-- has the attempt not been heard of for too long? -/
def late (lease : Int) (now : Nat) (x : At) : Bool := decide (lease < wrap64 ((now : Int) - (x.hd : Int)))
/-- what tick$1 reads -/
def TickK (Pb Tb : Nat) (now : Nat) (lease : Int) (W : World) : Prop := W.cell? ⟨Pb, 0, none⟩ = some (.pointer (some ⟨Tb, 2, none⟩)) ∧ W.cell? ⟨Tb, 13, none⟩ = some (.int .i64 now) ∧ W.cell? ⟨Tb, 7, none⟩ = some (.int .i64 lease)
theorem TickK.below {Pb Tb now : Nat} {lease : Int} {W W' : World} (h : TickK Pb Tb now lease W) (hb : Below W.heap.size W W') : TickK Pb Tb now lease W' :=
  ⟨(hb.cell (hp_lt h.1)).trans h.1, (hb.cell (hp_lt h.2.1)).trans h.2.1, (hb.cell (hp_lt h.2.2)).trans h.2.2⟩
theorem far_cell {W : World} {lb b j q : Nat} {v u : Value} (h : W.cell? ⟨b, q, none⟩ = some u) (hne : b ≠ lb) : (W.setCell ⟨lb, j, none⟩ v).cell? ⟨b, q, none⟩ = some u := by
  have e2 : (W.setCell ⟨lb, j, none⟩ v).heap[b]? = W.heap[b]? := Below.heap_setCell W ⟨lb, j, none⟩ v b hne
  simp only [World.cell?, e2]
  simpa only [World.cell?] using h
theorem TickK.set {Pb Tb now : Nat} {lease : Int} {W : World} (h : TickK Pb Tb now lease W) {lb j : Nat} {v : Value} (h1 : Pb ≠ lb) (h2 : Tb ≠ lb) : TickK Pb Tb now lease (W.setCell ⟨lb, j, none⟩ v) :=
  ⟨far_cell h.1 h1, far_cell h.2.1 h2, far_cell h.2.2 h2⟩

set_option maxHeartbeats 1000000 in
theorem tick1 (a : At) (Pb Tb now : Nat) (lease : Int) (w : World) (h : TickK Pb Tb now lease w) :
    Calls Tryz.prog 154 #[.agg #[.int .i64 a.id, .int .i64 a.far, .int .i64 a.gr, .int .i64 a.hd], .pointer (some ⟨Pb, 0, none⟩)] w fun e w' => e = .returned (.bool (late lease now a)) ∧ Below w.heap.size w w' := by
  have hb : Below w.heap.size w (w.alloc (.cells #[.int .i64 a.id, .int .i64 a.far, .int .i64 a.gr, .int .i64 a.hd] 283)) := (Below.refl _ _).alloc (Nat.le_refl _) _
  obtain ⟨k1, k2, k3⟩ := h.below hb
  clear h
  obtain ⟨i, f, g, hd⟩ := a
  simp only at hb k1 k2 k3 ⊢
  go_enter Tryz.func154, Tryz.ntmps154
  go_wp2_with fail
  go_quiet (fail)
  go_wp2
  go_ret
  exact ⟨rfl, below_drewN hb _⟩

/-- the first j tasks are looked over -/
def ticked (cf : Cf) (bk : Bk) : Nat → Bk
  | 0 => ⟨bk.ph, bk.ts, bk.gs, bk.now + 1, bk.fl⟩
  | j + 1 => match (ticked cf bk j).ts[j]? with | some t => (ticked cf bk j).dropped cf j t (late cf.lease (bk.now + 1)) | none => ticked cf bk j
theorem ticked_len (cf : Cf) (bk : Bk) : ∀ j, (ticked cf bk j).ts.length = bk.ts.length
  | 0 => rfl
  | j + 1 => by
    unfold ticked
    split
    · simp [Bk.dropped, ticked_len cf bk j]
    · exact ticked_len cf bk j
theorem ticked_now (cf : Cf) (bk : Bk) : ∀ j, (ticked cf bk j).now = bk.now + 1
  | 0 => rfl
  | j + 1 => by
    unfold ticked
    split
    · exact ticked_now cf bk j
    · exact ticked_now cf bk j
theorem ticked_succ (cf : Cf) (bk : Bk) (j : Nat) (h : j < (ticked cf bk j).ts.length) : ticked cf bk (j + 1) = (ticked cf bk j).dropped cf j (ticked cf bk j).ts[j] (late cf.lease (bk.now + 1)) := by
  rw [ticked, List.getElem?_eq_getElem h]
theorem ticked_live (cf : Cf) (bk : Bk) (h : ∀ t ∈ bk.ts, t.live.length ≤ 1048576) : ∀ j, ∀ t ∈ (ticked cf bk j).ts, t.live.length ≤ 1048576
  | 0 => h
  | j + 1 => by
    unfold ticked
    split
    · rename_i t ht
      intro u hu
      simp only [Bk.dropped] at hu
      rcases List.mem_or_eq_of_mem_set hu with hu | rfl
      · exact ticked_live cf bk h j u hu
      · exact Nat.le_trans (List.length_filter_le _ _) (ticked_live cf bk h j t (List.mem_of_getElem? ht))
    · exact ticked_live cf bk h j
theorem TbAt.setNow {B Tb : Nat} {st : Int} {cf : Cf} {w : World} {bk : Bk} {tv : Value} {vs : List Value} (h : TbAt B Tb st cf w bk tv vs) (x : Nat) : TbAt B Tb st cf (w.setCell ⟨Tb, 13, none⟩ (.int .i64 x)) ⟨bk.ph, bk.ts, bk.gs, x, bk.fl⟩ tv vs := by
  have b := h.blk
  refine ⟨?_, h.ts.other h.blk (by decide) (by decide) _⟩
  simp only [World.setCell, Array.getElem?_modify, if_true, b]
  simp
end Go.Proofs.YtibofakbhgmhiabGreatDoor

namespace Go.Proofs.YtibofakbhgmhiabGreatDoor
open Go.RowKit

/-- at the head of tick's loop -/
structure TkInv (B Tb : Nat) (st : Int) (cf : Cf) (w : World) (bk : Bk) (tv : Value) (j : Nat) (wr : World) : Prop where
  tb : ∃ vs', TbAt B Tb st cf wr (ticked cf bk j) tv vs'
  box : wr.heap[w.heap.size]? = some (.cells #[.pointer (some ⟨Tb, 2, none⟩)] 201 (0, 0))
  low : Below B w wr
  tf : Tf w wr
theorem TkInv.cells {B Tb : Nat} {st : Int} {cf : Cf} {w : World} {bk : Bk} {tv : Value} {j : Nat} {wr : World} (h : TkInv B Tb st cf w bk tv j wr) : wr.cell? ⟨w.heap.size, 0, none⟩ = some (.pointer (some ⟨Tb, 2, none⟩)) ∧ wr.cell? ⟨Tb, 11, none⟩ = some tv := by
  obtain ⟨vs', hT⟩ := h.tb
  exact ⟨cell_of_one h.box, hT.cells.2.1⟩
theorem TkInv.drew {B Tb : Nat} {st : Int} {cf : Cf} {w : World} {bk : Bk} {tv : Value} {j : Nat} {wr : World} (h : TkInv B Tb st cf w bk tv j wr) : TkInv B Tb st cf w bk tv j wr.drew := by
  obtain ⟨vs', hT⟩ := h.tb
  exact ⟨⟨vs', hT.below (Below.refl _ _).drew⟩, h.box, h.low.drew, h.tf.drew⟩
/-- one task is looked over -/
theorem tickDrop {B Tb : Nat} {st : Int} {cf : Cf} {w : World} {bk : Bk} {g c : Nat} {j : Nat} {wr : World} (h : TkInv B Tb st cf w bk (.slice (some ⟨g, 0, none⟩) bk.ts.length c) j wr) (hB : B ≤ Tb) (hj : j < bk.ts.length) (hal : ∀ t ∈ bk.ts, t.live.length ≤ 1048576) :
    Calls Tryz.prog 153 #[.pointer (some ⟨Tb, 2, none⟩), .pointer (some ⟨g, j * 3, none⟩), .func (.func 154) #[] #[.pointer (some ⟨w.heap.size, 0, none⟩)]] wr fun e w' => e = .returned (.tuple #[]) ∧ TkInv B Tb st cf w bk (.slice (some ⟨g, 0, none⟩) bk.ts.length c) (j + 1) w' := by
  obtain ⟨vs', hT⟩ := h.tb
  have hj' : j < (ticked cf bk j).ts.length := by rw [ticked_len]; exact hj
  have hv : j < vs'.length := by rw [hT.ts.len]; exact hj'
  have hlk := hT.ts.live j hj' hv
  have hn1 := own_ne hlk h.box (by decide)
  have hn2 := own_ne hlk hT.blk (by decide)
  have hnow := ticked_now cf bk j
  have c7 : wr.cell? ⟨Tb, 7, none⟩ = some (.int .i64 cf.lease) := by simp [World.cell?, hT.blk]
  have c13 : wr.cell? ⟨Tb, 13, none⟩ = some (.int .i64 ((bk.now + 1 : Nat) : Int)) := by rw [hT.cells.2.2.2.1, hnow]
  refine (dropTick hT hB j hj' hv (ticked_live cf bk hal j _ (List.getElem_mem hj')) w.heap.size (late cf.lease (bk.now + 1)) (TickK w.heap.size Tb (bk.now + 1) cf.lease) ⟨cell_of_one h.box, c13, c7⟩ (fun W W' hW hb => hW.below hb) (fun W lb q v e hW => hW.set (fun e' => hn1 (by rw [e, e'])) (fun e' => hn2 (by rw [e, e']))) (fun x W hW => tick1 x w.heap.size Tb (bk.now + 1) cf.lease W hW)).mono ?_
  rintro e w3 ⟨rfl, ⟨vs2, hT2⟩, hb3, ht3⟩
  rw [← ticked_succ cf bk j hj'] at hT2
  exact ⟨rfl, ⟨vs2, hT2⟩, ht3.block _ _ _ _ h.box (by decide) (by decide) (by decide), h.low.trans hb3, h.tf.trans ht3⟩

set_option maxHeartbeats 2000000 in
set_option maxRecDepth 100000 in
theorem tick {B Tb : Nat} {st : Int} {cf : Cf} {w : World} {bk : Bk} {a : Option Addr} {c : Nat} {vs : List Value} (h : TbAt B Tb st cf w bk (.slice a bk.ts.length c) vs) (hB : B ≤ Tb) (hl : bk.ts.length ≤ 1048576) (hal : ∀ t ∈ bk.ts, t.live.length ≤ 1048576) (hnw : bk.now ≤ 1048576) :
    Calls Tryz.prog 84 #[.pointer (some ⟨Tb, 2, none⟩)] w fun e w' => e = .returned (.tuple #[]) ∧ (∃ vs', TbAt B Tb st cf w' (ticked cf bk bk.ts.length) (.slice a bk.ts.length c) vs') ∧ Below B w w' ∧ Tf w w' := by
  have hmf : ∀ (fn : Fn) (first cap : Array Value) (w : World), (Instr.makeFunc fn first cap).run Tryz.prog w = .ok (.func fn first cap) w := fun _ _ _ _ => rfl
  have hTl := lt_of_block h.blk
  obtain ⟨c10, c11, c12, c13, c14, fz⟩ := h.cells
  have x11 := (World.cell?_alloc_lt w (.cells #[.pointer (some ⟨Tb, 2, none⟩)] 201) ⟨Tb, 11, none⟩ hTl).trans c11
  have x13 := (World.cell?_alloc_lt w (.cells #[.pointer (some ⟨Tb, 2, none⟩)] 201) ⟨Tb, 13, none⟩ hTl).trans c13
  have xf : ∀ j, (w.alloc (.cells #[.pointer (some ⟨Tb, 2, none⟩)] 201)).frozen? ⟨Tb, j, none⟩ = false := fun j => by simp only [World.frozen?, Below.heap_alloc w _ Tb hTl]; exact fz j
  have HS : Hid (TkInv B Tb st cf w bk (.slice a bk.ts.length c) 0 ((w.setCell ⟨Tb, 13, none⟩ (.int .i64 ((bk.now : Int) + 1))).alloc (.cells #[.pointer (some ⟨Tb, 2, none⟩)] 201))) := by
    have e1 : ((bk.now : Int) + 1) = ((bk.now + 1 : Nat) : Int) := by omega
    rw [e1]
    have h1 := h.setNow (bk.now + 1)
    refine ⟨⟨vs, h1.below ((Below.refl _ _).alloc (Nat.le_refl _) _)⟩, ?_, ((Below.refl B w).setCell (p := ⟨Tb, 13, none⟩) hB _).alloc (by simp [World.setCell]; omega) _, ((Tf.refl w).setCell h.blk (.inl rfl) _).alloc _⟩
    have : w.heap.size = (w.setCell ⟨Tb, 13, none⟩ (.int .i64 ((bk.now + 1 : Nat) : Int))).heap.size := by simp [World.setCell]
    rw [this]; exact alloc_at _ _
  have HA : Hid (∀ j, j < bk.ts.length → ∃ g, a = some ⟨g, 0, none⟩) := fun j hj => by
    obtain ⟨g, c', e⟩ := h.ts.at0 j hj
    simp only [Value.slice.injEq] at e
    exact ⟨g, e.1⟩
  clear h c10 c12 c14
  go_enter Tryz.func84, Tryz.ntmps84
  go_wp2_with fail
  go_loopw [15] (fun jv wr => ∃ j : Nat, j ≤ bk.ts.length ∧ jv = .int .i64 j ∧ TkInv B Tb st cf w bk (.slice a bk.ts.length c) j wr) (fun jv _ => bk.ts.length - (intOf jv).toNat)
  case atStart => exact ⟨0, Nat.zero_le _, rfl, HS.out⟩
  case round =>
    obtain ⟨j, hj, rfl, hI⟩ := hrel
    by_cases hjl : j < bk.ts.length
    · obtain ⟨g, rfl⟩ := HA.out j hjl
      have HD : Hid (Calls Tryz.prog 153 _ _ _) := tickDrop hI.drew hB hjl hal
      obtain ⟨q0, q1⟩ := hI.cells
      have HC : Hid (∀ W, TkInv B Tb st cf w bk (.slice (some ⟨g, 0, none⟩) bk.ts.length c) (j + 1) W → W.cell? ⟨w.heap.size, 0, none⟩ = some (.pointer (some ⟨Tb, 2, none⟩)) ∧ W.cell? ⟨Tb, 11, none⟩ = some (.slice (some ⟨g, 0, none⟩) bk.ts.length c)) := fun W hW => hW.cells
      have hjl' : (j : Int) < (bk.ts.length : Int) := by omega
      clear hI HS HA hal
      go_wp2_with fail
      go_region_held3 (fun w' => w'.cell? ⟨w.heap.size, 0, none⟩ = some (.pointer (some ⟨Tb, 2, none⟩)) ∧ w'.cell? ⟨Tb, 11, none⟩ = some (.slice (some ⟨g, 0, none⟩) bk.ts.length c)) (first | exact ⟨q0, q1⟩ | exact HC.out _ (by assumption) | go_keep) ((go_at_call 153; refine HD.out.mono ?_; rintro e w2 ⟨rfl, hI2⟩))
      go_wp2
      go_roundw
      case rel => exact ⟨j + 1, by omega, by go_num, hI2⟩
      case measure => simp [intOf]; omega
    · obtain rfl : j = bk.ts.length := by omega
      have HE : Hid ((∃ vs', TbAt B Tb st cf wr (ticked cf bk bk.ts.length) (.slice a bk.ts.length c) vs') ∧ Below B w wr ∧ Tf w wr) := ⟨hI.tb, hI.low, hI.tf⟩
      clear hI HS HA hal
      go_wp2
      first | go_end0 | refine bodyPost_ret (results_none rfl _ _ _) rfl ?_
      exact ⟨rfl, HE.out⟩
end Go.Proofs.YtibofakbhgmhiabGreatDoor
