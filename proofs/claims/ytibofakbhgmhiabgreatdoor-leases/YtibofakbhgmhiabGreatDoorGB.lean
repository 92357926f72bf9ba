import Derived.Test.YtibofakbhgmhiabGreatDoorProg
import Derived.Conc.MuLib
import Derived.Conc.MuLone
import Derived.KernelRfl
import Derived.Test.YtibofakbhgmhiabGreatDoorG1
import Derived.Defers

namespace Go.Proofs.YtibofakbhgmhiabGreatDoor
abbrev Tryz.muLink : Go.Conc.Locks.MuLink := { lock := 51, unlock := 52, ilock := 94, iunlock := 95, lockSlow := 163, unlockSlow := 166, disable := 159, enable := 161, acquire := 162, relMerge := 164, cas32 := 160, add32 := 165, tMutex := 124, tIMutex := 122, tPMutex := 200, tPIMutex := 300, tPI32 := 302, tUP := 190, tNoCopy := 119, tU32 := 120 }
theorem Tryz.muLib : Go.Conc.Locks.MuLib Tryz.prog Tryz.muLink :=
  ⟨Tryz.func51, Tryz.func52, Tryz.func94, Tryz.func95, Tryz.func159, Tryz.func161, Tryz.func162, Tryz.func164, Tryz.func160, Tryz.func165, Tryz.underlying122, Tryz.runUnderlying122, Tryz.sizeOf122, Tryz.isAgg122, Tryz.zeroValue122, Tryz.underlying124, Tryz.runUnderlying124, Tryz.sizeOf124, Tryz.isAgg124, Tryz.zeroValue124, Tryz.underlying200, Tryz.runUnderlying200, Tryz.sizeOf200, Tryz.isAgg200, Tryz.zeroValue200, Tryz.underlying300, Tryz.runUnderlying300, Tryz.sizeOf300, Tryz.isAgg300, Tryz.zeroValue300, Tryz.underlying302, Tryz.runUnderlying302, Tryz.sizeOf302, Tryz.isAgg302, Tryz.zeroValue302, Tryz.underlying190, Tryz.runUnderlying190, Tryz.sizeOf190, Tryz.isAgg190, Tryz.zeroValue190, Tryz.underlying119, Tryz.runUnderlying119, Tryz.sizeOf119, Tryz.isAgg119, Tryz.zeroValue119, Tryz.underlying21, Tryz.runUnderlying21, Tryz.sizeOf21, Tryz.isAgg21, Tryz.zeroValue21, (by kernel_rfl)⟩
end Go.Proofs.YtibofakbhgmhiabGreatDoor

namespace Go.Proofs.YtibofakbhgmhiabGreatDoor
open Go.RowKit Go.MuLone

theorem TbAt.setSt {B Tb : Nat} {st : Int} {cf : Cf} {w : World} {bk : Bk} {tv : Value} {vs : List Value} (h : TbAt B Tb st cf w bk tv vs) (x : Int) : TbAt B Tb x cf (w.setCell ⟨Tb, 0, none⟩ (.int .i32 x)) bk tv vs := by
  have b := h.blk
  refine ⟨?_, h.ts.other h.blk (by decide) (by decide) _⟩
  simp only [World.setCell, Array.getElem?_modify, if_true, b]
  simp
theorem TbAt.st_cell {B Tb : Nat} {st : Int} {cf : Cf} {w : World} {bk : Bk} {tv : Value} {vs : List Value} (h : TbAt B Tb st cf w bk tv vs) : w.cell? ⟨Tb, 0, none⟩ = some (.int .i32 st) := by simp [World.cell?, h.blk]
/-- how a table stands behind a call -/
def Stands (B Tb : Nat) (st : Int) (cf : Cf) (w : World) (bk' : Bk) (w' : World) : Prop := (∃ tv' vs', TbAt B Tb st cf w' bk' tv' vs') ∧ Below B w w' ∧ Tf w w'
theorem Stands.cells {B Tb : Nat} {st : Int} {cf : Cf} {w w' : World} {bk' : Bk} (h : Stands B Tb st cf w bk' w') : w'.cell? ⟨Tb, 0, none⟩ = some (.int .i32 st) ∧ w'.frozen? ⟨Tb, 0, none⟩ = false := by
  obtain ⟨⟨tv, vs, hT⟩, _⟩ := h
  exact ⟨hT.st_cell, hT.cells.2.2.2.2.2 0⟩
/-- the lock is given back -/
theorem Stands.unlock {B Tb : Nat} {st : Int} {cf : Cf} {w w1 w' : World} {bk' : Bk} (h : Stands B Tb st cf w1 bk' w') (hB : B ≤ Tb) (hb : Below B w w1) (ht : Tf w w1) : Stands B Tb 0 cf w bk' (w'.setCell ⟨Tb, 0, none⟩ (.int .i32 0)) := by
  obtain ⟨⟨tv, vs, hT⟩, hb1, ht1⟩ := h
  exact ⟨⟨tv, vs, hT.setSt 0⟩, (hb.trans hb1).setCell (p := ⟨Tb, 0, none⟩) hB _, (ht.trans ht1).setCell hT.blk (.inl rfl) _⟩
theorem lock_frame {B Tb : Nat} {st : Int} {cf : Cf} {w : World} {bk : Bk} {tv : Value} {vs : List Value} (h : TbAt B Tb st cf w bk tv vs) (hB : B ≤ Tb) : Below B w (w.setCell ⟨Tb, 0, none⟩ (.int .i32 1)) ∧ Tf w (w.setCell ⟨Tb, 0, none⟩ (.int .i32 1)) :=
  ⟨(Below.refl _ _).setCell (p := ⟨Tb, 0, none⟩) hB _, (Tf.refl w).setCell h.blk (.inl rfl) _⟩
theorem glob_cell {w : World} {Tb g : Nat} {x v : Value} (h : w.cell? ⟨g, 0, none⟩ = some x) (hne : g ≠ Tb) : (w.setCell ⟨Tb, 0, none⟩ v).cell? ⟨g, 0, none⟩ = some x := far_cell h hne

set_option maxHeartbeats 1000000 in
theorem tTick {B Tb : Nat} {cf : Cf} {w : World} {bk : Bk} {tv : Value} {vs : List Value} (h : TbAt B Tb 0 cf w bk tv vs) (hB : B ≤ Tb) (hl : bk.ts.length ≤ 1048576) (hal : ∀ t ∈ bk.ts, t.live.length ≤ 1048576) (hnw : bk.now ≤ 1048576) :
    Calls Tryz.prog 44 #[.pointer (some ⟨Tb, 0, none⟩)] w fun e w' => e = .returned (.tuple #[]) ∧ Stands B Tb 0 cf w (ticked cf bk bk.ts.length) w' := by
  obtain ⟨hb0, ht0⟩ := lock_frame h hB
  obtain ⟨a, c, rfl⟩ := h.ts.slice
  have HT : Hid (Calls Tryz.prog 84 #[.pointer (some ⟨Tb, 2, none⟩)] (w.setCell ⟨Tb, 0, none⟩ (.int .i32 1)) fun e w1 => e = .returned (.tuple #[]) ∧ (w1.cell? ⟨Tb, 0, none⟩ = some (.int .i32 1) ∧ w1.frozen? ⟨Tb, 0, none⟩ = false) ∧ Stands B Tb 0 cf w (ticked cf bk bk.ts.length) (w1.setCell ⟨Tb, 0, none⟩ (.int .i32 0))) := by
    refine (tick (h.setSt 1) hB hl hal hnw).mono ?_
    rintro e w1 ⟨rfl, ⟨vs', hT⟩, hb1, ht1⟩
    have hS : Stands B Tb 1 cf (w.setCell ⟨Tb, 0, none⟩ (.int .i32 1)) (ticked cf bk bk.ts.length) w1 := ⟨⟨_, vs', hT⟩, hb1, ht1⟩
    exact ⟨rfl, hS.cells, hS.unlock hB hb0 ht0⟩
  have hc := h.st_cell
  have hz := h.cells.2.2.2.2.2 0
  clear h hb0 ht0
  go_enter_defers Tryz.func44, Tryz.ntmps44
  go_wp2_with (first | (go_at_call 51; refine (lock_free Tryz.muLib ⟨Tb, 0, none⟩ _ hc hz).mono ?_; rintro e w' ⟨rfl, rfl⟩) | (go_at_call 84; refine HT.out.mono ?_; rintro e w1 ⟨rfl, ⟨q1, q2⟩, hfin⟩))
  refine leaves_cons (f := 52) (args := #[.pointer (some ⟨Tb, 0, none⟩)]) (by simp) (by simp [go_sem]) ?_
  refine (unlock_deferred Tryz.muLib ⟨Tb, 0, none⟩ .returning _ q1 q2).mono ?_
  rintro e u' w'' ⟨rfl, rfl, rfl⟩
  exact ⟨_, results_none rfl _ _ _, rfl, hfin⟩

/-- what Commit does to the book -/
def commitR (bk : Bk) (R : Nat) (id : Int) (p5 p6 : Addr) (e : Ending) (bk' : Bk) : Prop :=
  (bk.no id p5 p6 e ∧ bk' = bk) ∨ ((1 ≤ id ∧ id ≤ bk.gs) ∧ e = .returned .nilIface ∧ ∃ k i, bk.has id k i ∧ ∃ hk : k < bk.ts.length, bk' = (bk.doneAt k bk.ts[k]).ended R)
def failR (bk : Bk) (cf : Cf) (id : Int) (p5 p6 : Addr) (e : Ending) (bk' : Bk) : Prop :=
  (bk.no id p5 p6 e ∧ bk' = bk) ∨ ((1 ≤ id ∧ id ≤ bk.gs) ∧ e = .returned .nilIface ∧ ∃ k i, bk.has id k i ∧ ∃ hk : k < bk.ts.length, bk' = bk.dropped cf k bk.ts[k] (fun x => (x.id : Int) == id))
def beatR (bk : Bk) (id far : Int) (p0 p5 p6 : Addr) (e : Ending) (bk' : Bk) : Prop :=
  ((bk.no id p5 p6 e ∨ ((1 ≤ id ∧ id ≤ bk.gs) ∧ ¬ (0 ≤ far ∧ far ≤ 100) ∧ e = .returned (.iface 513 (.pointer (some p0))))) ∧ bk' = bk) ∨ ((1 ≤ id ∧ id ≤ bk.gs) ∧ (0 ≤ far ∧ far ≤ 100) ∧ e = .returned .nilIface ∧ ∃ k i f, ∃ hk : k < bk.ts.length, ∃ hi : i < bk.ts[k].live.length, (bk.ts[k].live[i].id : Int) = id ∧ bk' = bk.beat k i f bk.ts[k] bk.ts[k].live[i])
/-- an ending that is one error value -/
def IsErr (e : Ending) : Prop := e = .returned .nilIface ∨ ∃ p, e = .returned (.iface 513 (.pointer (some p)))
theorem no_err {bk : Bk} {id : Int} {p5 p6 : Addr} {e : Ending} (h : bk.no id p5 p6 e) : IsErr e := by
  rcases h with ⟨_, rfl⟩ | ⟨_, _, rfl⟩
  · exact .inr ⟨_, rfl⟩
  · exact .inr ⟨_, rfl⟩
theorem still {B Tb : Nat} {st : Int} {cf : Cf} {w w1 : World} {bk : Bk} {tv : Value} {vs : List Value} (h : TbAt B Tb st cf w bk tv vs) (hB : B ≤ Tb) (hb : Below w.heap.size w w1) : Stands B Tb st cf w bk w1 :=
  ⟨⟨tv, vs, h.below hb⟩, hb.mono (by have := lt_of_block h.blk; omega), Tf.of_below hb⟩

set_option maxHeartbeats 1000000 in
theorem tCommit {B Tb : Nat} {cf : Cf} {w : World} {bk : Bk} {tv : Value} {vs : List Value} (h : TbAt B Tb 0 cf w bk tv vs) (hB : B ≤ Tb) (id : Int) (p5 p6 : Addr) (h5 : w.cell? ⟨5, 0, none⟩ = some (.iface 513 (.pointer (some p5)))) (h6 : w.cell? ⟨6, 0, none⟩ = some (.iface 513 (.pointer (some p6)))) (n5 : 5 ≠ Tb) (n6 : 6 ≠ Tb) (hl : bk.ts.length ≤ 1048576) (hal : ∀ t ∈ bk.ts, t.live.length ≤ 1048576) (R : Nat) (hR : cf.reds = (R : Int)) (hR2 : R ≤ 16) :
    Calls Tryz.prog 29 #[.pointer (some ⟨Tb, 0, none⟩), .int .i64 id] w fun e w' => ∃ bk', commitR bk R id p5 p6 e bk' ∧ Stands B Tb 0 cf w bk' w' := by
  obtain ⟨hb0, ht0⟩ := lock_frame h hB
  obtain ⟨a, c, rfl⟩ := h.ts.slice
  have HT : Hid (Calls Tryz.prog 54 #[.pointer (some ⟨Tb, 2, none⟩), .int .i64 id] (w.setCell ⟨Tb, 0, none⟩ (.int .i32 1)) fun e w1 => ∃ v, e = .returned v ∧ (v = .nilIface ∨ ∃ p, v = .iface 513 (.pointer (some p))) ∧ (w1.cell? ⟨Tb, 0, none⟩ = some (.int .i32 1) ∧ w1.frozen? ⟨Tb, 0, none⟩ = false) ∧ ∃ bk', commitR bk R id p5 p6 (.returned v) bk' ∧ Stands B Tb 0 cf w bk' (w1.setCell ⟨Tb, 0, none⟩ (.int .i32 0))) := by
    refine (commit (h.setSt 1) hB id p5 p6 (glob_cell h5 n5) (glob_cell h6 n6) hl hal R hR hR2).mono ?_
    rintro e w1 (⟨hno, hb1⟩ | ⟨hin, rfl, k, i, hha, hk, hT, hb1, ht1⟩)
    · have hS := still (h.setSt 1) hB hb1
      rcases no_err hno with rfl | ⟨p, rfl⟩
      · exact ⟨_, rfl, .inl rfl, hS.cells, bk, .inl ⟨hno, rfl⟩, hS.unlock hB hb0 ht0⟩
      · exact ⟨_, rfl, .inr ⟨p, rfl⟩, hS.cells, bk, .inl ⟨hno, rfl⟩, hS.unlock hB hb0 ht0⟩
    · have hS : Stands B Tb 1 cf (w.setCell ⟨Tb, 0, none⟩ (.int .i32 1)) ((bk.doneAt k bk.ts[k]).ended R) w1 := ⟨hT, hb1, ht1⟩
      exact ⟨_, rfl, .inl rfl, hS.cells, _, .inr ⟨hin, rfl, k, i, hha, hk, rfl⟩, hS.unlock hB hb0 ht0⟩
  have hc := h.st_cell
  have hz := h.cells.2.2.2.2.2 0
  clear h hb0 ht0 h5 h6 hal
  go_enter_defers Tryz.func29, Tryz.ntmps29
  go_wp2_with (first | (go_at_call 51; refine (lock_free Tryz.muLib ⟨Tb, 0, none⟩ _ hc hz).mono ?_; rintro e w' ⟨rfl, rfl⟩) | (go_at_call 54; refine HT.out.mono ?_; rintro e w1 ⟨v, rfl, hv, ⟨q1, q2⟩, hfin⟩; rcases hv with rfl | ⟨p, rfl⟩))
  all_goals
    refine leaves_cons (f := 52) (args := #[.pointer (some ⟨Tb, 0, none⟩)]) (by simp) (by simp [go_sem]) ?_
    refine (unlock_deferred Tryz.muLib ⟨Tb, 0, none⟩ .returning _ q1 q2).mono ?_
    rintro e u' w'' ⟨rfl, rfl, rfl⟩
    refine ⟨_, results_tmp rfl _ _ _, ?_⟩
    exact hfin
set_option maxHeartbeats 1000000 in
theorem tFail {B Tb : Nat} {cf : Cf} {w : World} {bk : Bk} {tv : Value} {vs : List Value} (h : TbAt B Tb 0 cf w bk tv vs) (hB : B ≤ Tb) (id : Int) (p5 p6 : Addr) (h5 : w.cell? ⟨5, 0, none⟩ = some (.iface 513 (.pointer (some p5)))) (h6 : w.cell? ⟨6, 0, none⟩ = some (.iface 513 (.pointer (some p6)))) (n5 : 5 ≠ Tb) (n6 : 6 ≠ Tb) (hl : bk.ts.length ≤ 1048576) (hal : ∀ t ∈ bk.ts, t.live.length ≤ 1048576) :
    Calls Tryz.prog 83 #[.pointer (some ⟨Tb, 0, none⟩), .int .i64 id] w fun e w' => ∃ bk', failR bk cf id p5 p6 e bk' ∧ Stands B Tb 0 cf w bk' w' := by
  obtain ⟨hb0, ht0⟩ := lock_frame h hB
  obtain ⟨a, c, rfl⟩ := h.ts.slice
  have HT : Hid (Calls Tryz.prog 152 #[.pointer (some ⟨Tb, 2, none⟩), .int .i64 id] (w.setCell ⟨Tb, 0, none⟩ (.int .i32 1)) fun e w1 => ∃ v, e = .returned v ∧ (v = .nilIface ∨ ∃ p, v = .iface 513 (.pointer (some p))) ∧ (w1.cell? ⟨Tb, 0, none⟩ = some (.int .i32 1) ∧ w1.frozen? ⟨Tb, 0, none⟩ = false) ∧ ∃ bk', failR bk cf id p5 p6 (.returned v) bk' ∧ Stands B Tb 0 cf w bk' (w1.setCell ⟨Tb, 0, none⟩ (.int .i32 0))) := by
    refine (fail (h.setSt 1) hB id p5 p6 (glob_cell h5 n5) (glob_cell h6 n6) hl hal).mono ?_
    rintro e w1 (⟨hno, hb1⟩ | ⟨hin, rfl, k, i, hha, hk, hT, hb1, ht1⟩)
    · have hS := still (h.setSt 1) hB hb1
      rcases no_err hno with rfl | ⟨p, rfl⟩
      · exact ⟨_, rfl, .inl rfl, hS.cells, bk, .inl ⟨hno, rfl⟩, hS.unlock hB hb0 ht0⟩
      · exact ⟨_, rfl, .inr ⟨p, rfl⟩, hS.cells, bk, .inl ⟨hno, rfl⟩, hS.unlock hB hb0 ht0⟩
    · have hS : Stands B Tb 1 cf (w.setCell ⟨Tb, 0, none⟩ (.int .i32 1)) (bk.dropped cf k bk.ts[k] (fun x => (x.id : Int) == id)) w1 := ⟨hT, hb1, ht1⟩
      exact ⟨_, rfl, .inl rfl, hS.cells, _, .inr ⟨hin, rfl, k, i, hha, hk, rfl⟩, hS.unlock hB hb0 ht0⟩
  have hc := h.st_cell
  have hz := h.cells.2.2.2.2.2 0
  clear h hb0 ht0 h5 h6 hal
  go_enter_defers Tryz.func83, Tryz.ntmps83
  go_wp2_with (first | (go_at_call 51; refine (lock_free Tryz.muLib ⟨Tb, 0, none⟩ _ hc hz).mono ?_; rintro e w' ⟨rfl, rfl⟩) | (go_at_call 152; refine HT.out.mono ?_; rintro e w1 ⟨v, rfl, hv, ⟨q1, q2⟩, hfin⟩; rcases hv with rfl | ⟨p, rfl⟩))
  all_goals
    refine leaves_cons (f := 52) (args := #[.pointer (some ⟨Tb, 0, none⟩)]) (by simp) (by simp [go_sem]) ?_
    refine (unlock_deferred Tryz.muLib ⟨Tb, 0, none⟩ .returning _ q1 q2).mono ?_
    rintro e u' w'' ⟨rfl, rfl, rfl⟩
    refine ⟨_, results_tmp rfl _ _ _, ?_⟩
    exact hfin
set_option maxHeartbeats 1000000 in
theorem tHeartbeat {B Tb : Nat} {cf : Cf} {w : World} {bk : Bk} {tv : Value} {vs : List Value} (h : TbAt B Tb 0 cf w bk tv vs) (hB : B ≤ Tb) (id far : Int) (p0 p5 p6 : Addr) (h0 : w.cell? ⟨0, 0, none⟩ = some (.iface 513 (.pointer (some p0)))) (h5 : w.cell? ⟨5, 0, none⟩ = some (.iface 513 (.pointer (some p5)))) (h6 : w.cell? ⟨6, 0, none⟩ = some (.iface 513 (.pointer (some p6)))) (n0 : 0 ≠ Tb) (n5 : 5 ≠ Tb) (n6 : 6 ≠ Tb) (hl : bk.ts.length ≤ 1048576) (hal : ∀ t ∈ bk.ts, t.live.length ≤ 1048576) :
    Calls Tryz.prog 82 #[.pointer (some ⟨Tb, 0, none⟩), .int .i64 id, .int .i64 far] w fun e w' => ∃ bk', beatR bk id far p0 p5 p6 e bk' ∧ Stands B Tb 0 cf w bk' w' := by
  obtain ⟨hb0, ht0⟩ := lock_frame h hB
  obtain ⟨a, c, rfl⟩ := h.ts.slice
  have HT : Hid (Calls Tryz.prog 151 #[.pointer (some ⟨Tb, 2, none⟩), .int .i64 id, .int .i64 far] (w.setCell ⟨Tb, 0, none⟩ (.int .i32 1)) fun e w1 => ∃ v, e = .returned v ∧ (v = .nilIface ∨ ∃ p, v = .iface 513 (.pointer (some p))) ∧ (w1.cell? ⟨Tb, 0, none⟩ = some (.int .i32 1) ∧ w1.frozen? ⟨Tb, 0, none⟩ = false) ∧ ∃ bk', beatR bk id far p0 p5 p6 (.returned v) bk' ∧ Stands B Tb 0 cf w bk' (w1.setCell ⟨Tb, 0, none⟩ (.int .i32 0))) := by
    refine (heartbeat (h.setSt 1) hB id far p0 p5 p6 (glob_cell h0 n0) (glob_cell h5 n5) (glob_cell h6 n6) hl hal).mono ?_
    rintro e w1 (⟨hno, hb1⟩ | ⟨hin, hfr, rfl, k, i, f, hk, hi, hid, ⟨vs', hT⟩, hb1, ht1⟩)
    · have hS := still (h.setSt 1) hB hb1
      have he : IsErr e := by
        rcases hno with hno | ⟨_, _, rfl⟩
        · exact no_err hno
        · exact .inr ⟨_, rfl⟩
      rcases he with rfl | ⟨p, rfl⟩
      · exact ⟨_, rfl, .inl rfl, hS.cells, bk, .inl ⟨hno, rfl⟩, hS.unlock hB hb0 ht0⟩
      · exact ⟨_, rfl, .inr ⟨p, rfl⟩, hS.cells, bk, .inl ⟨hno, rfl⟩, hS.unlock hB hb0 ht0⟩
    · have hS : Stands B Tb 1 cf (w.setCell ⟨Tb, 0, none⟩ (.int .i32 1)) (bk.beat k i f bk.ts[k] bk.ts[k].live[i]) w1 := ⟨⟨_, vs', hT⟩, hb1, ht1⟩
      exact ⟨_, rfl, .inl rfl, hS.cells, _, .inr ⟨hin, hfr, rfl, k, i, f, hk, hi, hid, rfl⟩, hS.unlock hB hb0 ht0⟩
  have hc := h.st_cell
  have hz := h.cells.2.2.2.2.2 0
  clear h hb0 ht0 h0 h5 h6 hal
  go_enter_defers Tryz.func82, Tryz.ntmps82
  go_wp2_with (first | (go_at_call 51; refine (lock_free Tryz.muLib ⟨Tb, 0, none⟩ _ hc hz).mono ?_; rintro e w' ⟨rfl, rfl⟩) | (go_at_call 151; refine HT.out.mono ?_; rintro e w1 ⟨v, rfl, hv, ⟨q1, q2⟩, hfin⟩; rcases hv with rfl | ⟨p, rfl⟩))
  all_goals
    refine leaves_cons (f := 52) (args := #[.pointer (some ⟨Tb, 0, none⟩)]) (by simp) (by simp [go_sem]) ?_
    refine (unlock_deferred Tryz.muLib ⟨Tb, 0, none⟩ .returning _ q1 q2).mono ?_
    rintro e u' w'' ⟨rfl, rfl, rfl⟩
    refine ⟨_, results_tmp rfl _ _ _, ?_⟩
    exact hfin
end Go.Proofs.YtibofakbhgmhiabGreatDoor

namespace Go.Proofs.YtibofakbhgmhiabGreatDoor
open Go.RowKit Go.MuLone

def reqR (bk : Bk) (cf : Cf) (p7 p8 p9 : Addr) (e : Ending) (bk' : Bk) : Prop :=
  (bk.reqNo p7 p8 p9 e ∧ bk' = bk) ∨ (∃ k b, bk.reqOk cf k b e ∧ ∃ hk : k < bk.ts.length, bk' = bk.granted k bk.ts[k])
theorem req_form {bk : Bk} {cf : Cf} {p7 p8 p9 : Addr} {e : Ending} {bk' : Bk} (h : reqR bk cf p7 p8 p9 e bk') : ∃ (x0 x1 x2 : Int) (x3 : Bool) (ev : Value), e = .returned (.tuple #[.agg #[.int .i64 x0, .int .i64 x1, .int .i64 x2, .bool x3], ev]) ∧ (ev = .nilIface ∨ ∃ p, ev = .iface 513 (.pointer (some p))) := by
  rcases h with ⟨⟨_, rfl⟩ | ⟨_, _, rfl⟩ | ⟨_, _, _, rfl⟩, _⟩ | ⟨k, b, ⟨_, _, rfl, _⟩, _⟩
  · exact ⟨0, 0, 0, false, _, rfl, .inr ⟨_, rfl⟩⟩
  · exact ⟨0, 0, 0, false, _, rfl, .inr ⟨_, rfl⟩⟩
  · exact ⟨0, 0, 0, false, _, rfl, .inr ⟨_, rfl⟩⟩
  · exact ⟨_, _, _, _, _, rfl, .inl rfl⟩

set_option maxHeartbeats 2000000 in
set_option maxRecDepth 100000 in
theorem tRequest {B Tb : Nat} {cf : Cf} {w : World} {bk : Bk} {tv : Value} {vs : List Value} (h : TbAt B Tb 0 cf w bk tv vs) (hB : B ≤ Tb) (p7 p8 p9 : Addr) (e7 : w.cell? ⟨7, 0, none⟩ = some (.iface 513 (.pointer (some p7)))) (e8 : w.cell? ⟨8, 0, none⟩ = some (.iface 513 (.pointer (some p8)))) (e9 : w.cell? ⟨9, 0, none⟩ = some (.iface 513 (.pointer (some p9)))) (n7 : 7 ≠ Tb) (n8 : 8 ≠ Tb) (n9 : 9 ≠ Tb) (hl : bk.ts.length ≤ 1048576) (h1 : bk.gs ≤ 1048576) (h2 : ∀ t ∈ bk.ts, t.gr ≤ 1048576) (h3 : ∀ t ∈ bk.ts, t.live.length ≤ 1048576) :
    Calls Tryz.prog 28 #[.pointer (some ⟨Tb, 0, none⟩)] w fun e w' => ∃ bk', reqR bk cf p7 p8 p9 e bk' ∧ Stands B Tb 0 cf w bk' w' := by
  have hTl := lt_of_block h.blk
  obtain ⟨hb0, ht0⟩ := lock_frame h hB
  have hba : Below (w.setCell ⟨Tb, 0, none⟩ (.int .i32 1)).heap.size (w.setCell ⟨Tb, 0, none⟩ (.int .i32 1)) ((w.setCell ⟨Tb, 0, none⟩ (.int .i32 1)).alloc (.cells #[.int .i64 0, .int .i64 0, .int .i64 0, .bool false] 50)) := (Below.refl _ _).alloc (Nat.le_refl _) _
  have hsw : (w.setCell ⟨Tb, 0, none⟩ (.int .i32 1)).heap.size = w.heap.size := by simp [World.setCell]
  have hA := (h.setSt 1).below hba
  have hr0 : ((w.setCell ⟨Tb, 0, none⟩ (.int .i32 1)).alloc (.cells #[.int .i64 0, .int .i64 0, .int .i64 0, .bool false] 50)).heap[w.heap.size]? = some (.cells #[.int .i64 0, .int .i64 0, .int .i64 0, .bool false] 50 (0, 0)) := by
    have := alloc_at (w.setCell ⟨Tb, 0, none⟩ (.int .i32 1)) (.cells #[.int .i64 0, .int .i64 0, .int .i64 0, .bool false] 50)
    rw [hsw] at this
    exact this
  have hbB : Below B w ((w.setCell ⟨Tb, 0, none⟩ (.int .i32 1)).alloc (.cells #[.int .i64 0, .int .i64 0, .int .i64 0, .bool false] 50)) := hb0.trans (hba.mono (by rw [hsw]; omega))
  have htB : Tf w ((w.setCell ⟨Tb, 0, none⟩ (.int .i32 1)).alloc (.cells #[.int .i64 0, .int .i64 0, .int .i64 0, .bool false] 50)) := ht0.trans (Tf.of_below hba)
  have up : ∀ {g : Nat} {x : Value}, w.cell? ⟨g, 0, none⟩ = some x → g ≠ Tb → ((w.setCell ⟨Tb, 0, none⟩ (.int .i32 1)).alloc (.cells #[.int .i64 0, .int .i64 0, .int .i64 0, .bool false] 50)).cell? ⟨g, 0, none⟩ = some x := fun hx hn => (World.cell?_alloc_lt _ _ _ (by rw [hsw]; exact hp_lt hx)).trans (glob_cell hx hn)
  have HT : Hid (Calls Tryz.prog 53 #[.pointer (some ⟨Tb, 2, none⟩)] ((w.setCell ⟨Tb, 0, none⟩ (.int .i32 1)).alloc (.cells #[.int .i64 0, .int .i64 0, .int .i64 0, .bool false] 50)) fun e w1 => ∃ (x0 x1 x2 : Int) (x3 : Bool) (ev : Value), e = .returned (.tuple #[.agg #[.int .i64 x0, .int .i64 x1, .int .i64 x2, .bool x3], ev]) ∧ (ev = .nilIface ∨ ∃ p, ev = .iface 513 (.pointer (some p))) ∧ (w1.cell? ⟨w.heap.size, 0, none⟩ = some (.int .i64 0) ∧ w1.cell? ⟨w.heap.size, 1, none⟩ = some (.int .i64 0) ∧ w1.cell? ⟨w.heap.size, 2, none⟩ = some (.int .i64 0) ∧ w1.cell? ⟨w.heap.size, 3, none⟩ = some (.bool false)) ∧ (∀ j, w1.frozen? ⟨w.heap.size, j, none⟩ = false) ∧
      ∀ a0 a1 a2 a3 : Value, (((((w1.setCell ⟨w.heap.size, 0, none⟩ a0).setCell ⟨w.heap.size, 1, none⟩ a1).setCell ⟨w.heap.size, 2, none⟩ a2).setCell ⟨w.heap.size, 3, none⟩ a3).cell? ⟨Tb, 0, none⟩ = some (.int .i32 1) ∧ ((((w1.setCell ⟨w.heap.size, 0, none⟩ a0).setCell ⟨w.heap.size, 1, none⟩ a1).setCell ⟨w.heap.size, 2, none⟩ a2).setCell ⟨w.heap.size, 3, none⟩ a3).frozen? ⟨Tb, 0, none⟩ = false) ∧ ∃ bk', reqR bk cf p7 p8 p9 (.returned (.tuple #[.agg #[.int .i64 x0, .int .i64 x1, .int .i64 x2, .bool x3], ev])) bk' ∧ Stands B Tb 0 cf w bk' (((((w1.setCell ⟨w.heap.size, 0, none⟩ a0).setCell ⟨w.heap.size, 1, none⟩ a1).setCell ⟨w.heap.size, 2, none⟩ a2).setCell ⟨w.heap.size, 3, none⟩ a3).setCell ⟨Tb, 0, none⟩ (.int .i32 0))) := by
    refine (request hA hB p7 p8 p9 (up e7 n7) (up e8 n8) (up e9 n9) hl h1 h2 h3).mono ?_
    intro e w1 hr
    obtain ⟨bk', hR, hS⟩ : ∃ bk', reqR bk cf p7 p8 p9 e bk' ∧ Stands B Tb 1 cf ((w.setCell ⟨Tb, 0, none⟩ (.int .i32 1)).alloc (.cells #[.int .i64 0, .int .i64 0, .int .i64 0, .bool false] 50)) bk' w1 := by
      rcases hr with ⟨hno, hT, hb1, ht1⟩ | ⟨k, b, hok, hk, hT, hb1, ht1⟩
      · exact ⟨bk, .inl ⟨hno, rfl⟩, hT, hb1, ht1⟩
      · exact ⟨_, .inr ⟨k, b, hok, hk, rfl⟩, hT, hb1, ht1⟩
    obtain ⟨x0, x1, x2, x3, ev, rfl, hev⟩ := req_form hR
    obtain ⟨hT, hb1, ht1⟩ := hS
    have hr1 := ht1.block _ _ _ _ hr0 (by decide) (by decide) (by decide)
    refine ⟨x0, x1, x2, x3, ev, rfl, hev, by simp [World.cell?, hr1], by simp [World.frozen?, hr1], fun a0 a1 a2 a3 => ?_⟩
    obtain ⟨tv', vs', hT'⟩ := hT
    obtain ⟨⟨vs2, f1⟩, f2, f3⟩ := grant_end (w := w) hr1 ⟨vs', hT'⟩ (hbB.trans hb1) (htB.trans ht1) (by omega) a0 a1 a2 a3
    have hS2 : Stands B Tb 1 cf w bk' ((((w1.setCell ⟨w.heap.size, 0, none⟩ a0).setCell ⟨w.heap.size, 1, none⟩ a1).setCell ⟨w.heap.size, 2, none⟩ a2).setCell ⟨w.heap.size, 3, none⟩ a3) := ⟨⟨_, vs2, f1⟩, f2, f3⟩
    exact ⟨hS2.cells, bk', hR, hS2.unlock hB (Below.refl _ _) (Tf.refl w)⟩
  have hc := (World.cell?_alloc_lt w (.cells #[.int .i64 0, .int .i64 0, .int .i64 0, .bool false] 50) ⟨Tb, 0, none⟩ hTl).trans h.st_cell
  have hz : (w.alloc (.cells #[.int .i64 0, .int .i64 0, .int .i64 0, .bool false] 50)).frozen? ⟨Tb, 0, none⟩ = false := by simp only [World.frozen?, Below.heap_alloc w _ Tb hTl]; exact h.cells.2.2.2.2.2 0
  have hTn : ¬ w.heap.size = Tb := by omega
  clear h hA hb0 ht0 e7 e8 e9 h2 h3 up hr0 hbB htB hba
  go_enter_defers Tryz.func28, Tryz.ntmps28
  go_wp2_with (first | (go_at_call 51; refine (lock_free Tryz.muLib ⟨Tb, 0, none⟩ _ hc hz).mono ?_; rintro e w' ⟨rfl, rfl⟩) | (go_at_call 53; refine HT.out.mono ?_; rintro e w1 ⟨x0, x1, x2, x3, ev, rfl, hev, ⟨z0, z1, z2, z3⟩, zf, hfin⟩; rcases hev with rfl | ⟨p, rfl⟩))
  all_goals
    obtain ⟨⟨q1, q2⟩, hfin2⟩ := hfin (.int .i64 x0) (.int .i64 x1) (.int .i64 x2) (.bool x3)
    refine leaves_cons (f := 52) (args := #[.pointer (some ⟨Tb, 0, none⟩)]) (by simp) (by simp [go_sem]) ?_
    refine (unlock_deferred Tryz.muLib ⟨Tb, 0, none⟩ .returning _ q1 q2).mono ?_
    rintro e u' w'' ⟨rfl, rfl, rfl⟩
    refine ⟨_, ?_, hfin2⟩
    simp [results, Tryz.results28, go_sem, z0, z1, z2, z3]
end Go.Proofs.YtibofakbhgmhiabGreatDoor

namespace Go.Proofs.YtibofakbhgmhiabGreatDoor
open Go.RowKit

/-- may the config be? -/
def Cf.ok (cf : Cf) : Prop := (1 ≤ cf.maps ∧ cf.maps ≤ 16) ∧ (1 ≤ cf.reds ∧ cf.reds ≤ 16) ∧ (1 ≤ cf.wrk ∧ cf.wrk ≤ 8) ∧ (1 ≤ cf.att ∧ cf.att ≤ 10) ∧ (0 ≤ cf.bck ∧ cf.bck ≤ 3) ∧ (1 ≤ cf.lease ∧ cf.lease ≤ 100) ∧ (0 ≤ cf.late ∧ cf.late ≤ 1000000) ∧ (0 ≤ cf.cap ∧ cf.cap ≤ 1048576)
instance (cf : Cf) : Decidable cf.ok := by unfold Cf.ok; infer_instance

theorem Cf.okNo0 (maps reds wrk att bck lease late cap : Int) (c : ¬ (1 ≤ maps ∧ maps ≤ 16)) : decide (Cf.ok ⟨maps, reds, wrk, att, bck, lease, late, cap⟩) = false := decide_eq_false (fun h => c h.1)
theorem Cf.okNo1 (maps reds wrk att bck lease late cap : Int) (c : ¬ (1 ≤ reds ∧ reds ≤ 16)) : decide (Cf.ok ⟨maps, reds, wrk, att, bck, lease, late, cap⟩) = false := decide_eq_false (fun h => c h.2.1)
theorem Cf.okNo2 (maps reds wrk att bck lease late cap : Int) (c : ¬ (1 ≤ wrk ∧ wrk ≤ 8)) : decide (Cf.ok ⟨maps, reds, wrk, att, bck, lease, late, cap⟩) = false := decide_eq_false (fun h => c h.2.2.1)
theorem Cf.okNo3 (maps reds wrk att bck lease late cap : Int) (c : ¬ (1 ≤ att ∧ att ≤ 10)) : decide (Cf.ok ⟨maps, reds, wrk, att, bck, lease, late, cap⟩) = false := decide_eq_false (fun h => c h.2.2.2.1)
theorem Cf.okNo4 (maps reds wrk att bck lease late cap : Int) (c : ¬ (0 ≤ bck ∧ bck ≤ 3)) : decide (Cf.ok ⟨maps, reds, wrk, att, bck, lease, late, cap⟩) = false := decide_eq_false (fun h => c h.2.2.2.2.1)
theorem Cf.okNo5 (maps reds wrk att bck lease late cap : Int) (c : ¬ (1 ≤ lease ∧ lease ≤ 100)) : decide (Cf.ok ⟨maps, reds, wrk, att, bck, lease, late, cap⟩) = false := decide_eq_false (fun h => c h.2.2.2.2.2.1)
theorem Cf.okNo6 (maps reds wrk att bck lease late cap : Int) (c : ¬ (0 ≤ late ∧ late ≤ 1000000)) : decide (Cf.ok ⟨maps, reds, wrk, att, bck, lease, late, cap⟩) = false := decide_eq_false (fun h => c h.2.2.2.2.2.2.1)
theorem Cf.okNo7 (maps reds wrk att bck lease late cap : Int) (c : ¬ (0 ≤ cap ∧ cap ≤ 1048576)) : decide (Cf.ok ⟨maps, reds, wrk, att, bck, lease, late, cap⟩) = false := decide_eq_false (fun h => c h.2.2.2.2.2.2.2)
theorem Cf.okYes (maps reds wrk att bck lease late cap : Int) (c0 : 1 ≤ maps ∧ maps ≤ 16) (c1 : 1 ≤ reds ∧ reds ≤ 16) (c2 : 1 ≤ wrk ∧ wrk ≤ 8) (c3 : 1 ≤ att ∧ att ≤ 10) (c4 : 0 ≤ bck ∧ bck ≤ 3) (c5 : 1 ≤ lease ∧ lease ≤ 100) (c6 : 0 ≤ late ∧ late ≤ 1000000) (c7 : 0 ≤ cap ∧ cap ≤ 1048576) : decide (Cf.ok ⟨maps, reds, wrk, att, bck, lease, late, cap⟩) = true := decide_eq_true ⟨c0, c1, c2, c3, c4, c5, c6, c7⟩

set_option maxHeartbeats 2000000 in
set_option maxRecDepth 100000 in
theorem mayBe (cf : Cf) (w : World) : Calls Tryz.prog 47 #[.agg #[.int .i64 cf.maps, .int .i64 cf.reds, .int .i64 cf.wrk, .int .i64 cf.att, .int .i64 cf.bck, .int .i64 cf.lease, .int .i64 cf.late, .int .i64 cf.cap]] w fun e w' => e = .returned (.bool (decide cf.ok)) ∧ Below w.heap.size w w' := by
  have hb : Below w.heap.size w (w.alloc (.cells #[.int .i64 cf.maps, .int .i64 cf.reds, .int .i64 cf.wrk, .int .i64 cf.att, .int .i64 cf.bck, .int .i64 cf.lease, .int .i64 cf.late, .int .i64 cf.cap] 36)) := (Below.refl _ _).alloc (Nat.le_refl _) _
  obtain ⟨maps, reds, wrk, att, bck, lease, late, cap⟩ := cf
  simp only at hb ⊢
  generalize hq : decide (Cf.ok _) = q
  have HQ : Hid (decide (Cf.ok _) = q) := hq
  clear hq
  by_cases c0 : 1 ≤ maps ∧ maps ≤ 16
  rotate_left
  · have d0 := decide_eq_false c0
    have hqf : q = false := HQ.out.symm.trans (Cf.okNo0 _ _ _ _ _ _ _ _ c0)
    subst hqf
    clear HQ
    go_enter Tryz.func47, Tryz.ntmps47
    go_wp2_with (first | (go_at_call 87; refine (within _ _ _ _).mono ?_; rintro e w' ⟨rfl, rfl⟩; (first | rw [d0])))
    go_ret
    exact ⟨rfl, hb⟩
  have d0 := decide_eq_true c0
  by_cases c1 : 1 ≤ reds ∧ reds ≤ 16
  rotate_left
  · have d1 := decide_eq_false c1
    have hqf : q = false := HQ.out.symm.trans (Cf.okNo1 _ _ _ _ _ _ _ _ c1)
    subst hqf
    clear HQ
    go_enter Tryz.func47, Tryz.ntmps47
    go_wp2_with (first | (go_at_call 87; refine (within _ _ _ _).mono ?_; rintro e w' ⟨rfl, rfl⟩; (first | rw [d0] | rw [d1])))
    go_ret
    exact ⟨rfl, hb⟩
  have d1 := decide_eq_true c1
  by_cases c2 : 1 ≤ wrk ∧ wrk ≤ 8
  rotate_left
  · have d2 := decide_eq_false c2
    have hqf : q = false := HQ.out.symm.trans (Cf.okNo2 _ _ _ _ _ _ _ _ c2)
    subst hqf
    clear HQ
    go_enter Tryz.func47, Tryz.ntmps47
    go_wp2_with (first | (go_at_call 87; refine (within _ _ _ _).mono ?_; rintro e w' ⟨rfl, rfl⟩; (first | rw [d0] | rw [d1] | rw [d2])))
    go_ret
    exact ⟨rfl, hb⟩
  have d2 := decide_eq_true c2
  by_cases c3 : 1 ≤ att ∧ att ≤ 10
  rotate_left
  · have d3 := decide_eq_false c3
    have hqf : q = false := HQ.out.symm.trans (Cf.okNo3 _ _ _ _ _ _ _ _ c3)
    subst hqf
    clear HQ
    go_enter Tryz.func47, Tryz.ntmps47
    go_wp2_with (first | (go_at_call 87; refine (within _ _ _ _).mono ?_; rintro e w' ⟨rfl, rfl⟩; (first | rw [d0] | rw [d1] | rw [d2] | rw [d3])))
    go_ret
    exact ⟨rfl, hb⟩
  have d3 := decide_eq_true c3
  by_cases c4 : 0 ≤ bck ∧ bck ≤ 3
  rotate_left
  · have d4 := decide_eq_false c4
    have hqf : q = false := HQ.out.symm.trans (Cf.okNo4 _ _ _ _ _ _ _ _ c4)
    subst hqf
    clear HQ
    go_enter Tryz.func47, Tryz.ntmps47
    go_wp2_with (first | (go_at_call 87; refine (within _ _ _ _).mono ?_; rintro e w' ⟨rfl, rfl⟩; (first | rw [d0] | rw [d1] | rw [d2] | rw [d3] | rw [d4])))
    go_ret
    exact ⟨rfl, hb⟩
  have d4 := decide_eq_true c4
  by_cases c5 : 1 ≤ lease ∧ lease ≤ 100
  rotate_left
  · have d5 := decide_eq_false c5
    have hqf : q = false := HQ.out.symm.trans (Cf.okNo5 _ _ _ _ _ _ _ _ c5)
    subst hqf
    clear HQ
    go_enter Tryz.func47, Tryz.ntmps47
    go_wp2_with (first | (go_at_call 87; refine (within _ _ _ _).mono ?_; rintro e w' ⟨rfl, rfl⟩; (first | rw [d0] | rw [d1] | rw [d2] | rw [d3] | rw [d4] | rw [d5])))
    go_ret
    exact ⟨rfl, hb⟩
  have d5 := decide_eq_true c5
  by_cases c6 : 0 ≤ late ∧ late ≤ 1000000
  rotate_left
  · have d6 := decide_eq_false c6
    have hqf : q = false := HQ.out.symm.trans (Cf.okNo6 _ _ _ _ _ _ _ _ c6)
    subst hqf
    clear HQ
    go_enter Tryz.func47, Tryz.ntmps47
    go_wp2_with (first | (go_at_call 87; refine (within _ _ _ _).mono ?_; rintro e w' ⟨rfl, rfl⟩; (first | rw [d0] | rw [d1] | rw [d2] | rw [d3] | rw [d4] | rw [d5] | rw [d6])))
    go_ret
    exact ⟨rfl, hb⟩
  have d6 := decide_eq_true c6
  by_cases c7 : 0 ≤ cap ∧ cap ≤ 1048576
  rotate_left
  · have d7 := decide_eq_false c7
    have hqf : q = false := HQ.out.symm.trans (Cf.okNo7 _ _ _ _ _ _ _ _ c7)
    subst hqf
    clear HQ
    go_enter Tryz.func47, Tryz.ntmps47
    go_wp2_with (first | (go_at_call 87; refine (within _ _ _ _).mono ?_; rintro e w' ⟨rfl, rfl⟩; (first | rw [d0] | rw [d1] | rw [d2] | rw [d3] | rw [d4] | rw [d5] | rw [d6] | rw [d7])))
    go_ret
    exact ⟨rfl, hb⟩
  have d7 := decide_eq_true c7
  have hqt : q = true := HQ.out.symm.trans (Cf.okYes _ _ _ _ _ _ _ _ c0 c1 c2 c3 c4 c5 c6 c7)
  subst hqt
  clear HQ
  go_enter Tryz.func47, Tryz.ntmps47
  go_wp2_with (first | (go_at_call 87; refine (within _ _ _ _).mono ?_; rintro e w' ⟨rfl, rfl⟩; (first | rw [d0] | rw [d1] | rw [d2] | rw [d3] | rw [d4] | rw [d5] | rw [d6] | rw [d7])))
  go_ret
  exact ⟨rfl, hb⟩
end Go.Proofs.YtibofakbhgmhiabGreatDoor

namespace Go.Proofs.YtibofakbhgmhiabGreatDoor
open Go.RowKit

theorem own_heap {w w' : World} {B : Nat} {e : TypeId} {s : Nat} {v : Value} {n : Nat} {xs : List Value} (ho : w.ownsRow B e s v n xs) (hh : ∀ k, v.ownBlock = some k → w'.heap[k]? = w.heap[k]?) : w'.ownsRow B e s v n xs := by
  refine ⟨ho.1, ?_⟩
  rcases ho.2 with h0 | ⟨g, cap, cur, hv, hg, hh', r⟩
  · exact .inl h0
  · exact .inr ⟨g, cap, cur, hv, hg, by rw [hh g (by rw [hv]; rfl)]; exact hh', r⟩
/-- one block that is none of theirs is written -/
theorem TsAt.but {B : Nat} {w w' : World} {tv : Value} {ts : List Tk} {vs : List Value} (h : TsAt B w tv ts vs) {X : Nat} {cc : Array Value} {t : TypeId} {fz : Nat × Nat} (hX : w.heap[X]? = some (.cells cc t fz)) (h1 : 205 ≠ t) (h2 : 283 ≠ t) (hw : ∀ k, k ≠ X → w'.heap[k]? = w.heap[k]?) : TsAt B w' tv ts vs :=
  ⟨own_heap h.row (fun k hk => hw k (fun e => own_ne h.row hX h1 (by rw [hk, e]))), h.len, fun k hk hv => own_heap (h.live k hk hv) (fun i hi => hw i (fun e => own_ne (h.live k hk hv) hX h2 (by rw [hi, e]))), h.dis⟩

set_option maxHeartbeats 1000000 in
set_option maxRecDepth 100000 in
theorem newBook (cf : Cf) (M : Nat) (hM : cf.maps = (M : Int)) (hM2 : M ≤ 16) (w : World) :
    Calls Tryz.prog 48 #[.agg #[.int .i64 cf.maps, .int .i64 cf.reds, .int .i64 cf.wrk, .int .i64 cf.att, .int .i64 cf.bck, .int .i64 cf.lease, .int .i64 cf.late, .int .i64 cf.cap]] w fun e w' => ∃ g, e = .returned (.agg #[.int .i64 cf.maps, .int .i64 cf.reds, .int .i64 cf.wrk, .int .i64 cf.att, .int .i64 cf.bck, .int .i64 cf.lease, .int .i64 cf.late, .int .i64 cf.cap, .int .i64 1, .slice (some ⟨g, 0, none⟩) M M, .int .i64 0, .int .i64 0, .bool false]) ∧ TsAt w.heap.size w' (.slice (some ⟨g, 0, none⟩) M M) (List.replicate M fresh) (List.replicate M (.slice none 0 0)) ∧ Below w.heap.size w w' := by
  obtain ⟨i0, hi, hz0, hz1, hz2⟩ := info_parts Tryz.infoTask
  obtain ⟨w0, hw0⟩ : ∃ w0, w0 = (w.alloc (.cells #[.int .i64 cf.maps, .int .i64 cf.reds, .int .i64 cf.wrk, .int .i64 cf.att, .int .i64 cf.bck, .int .i64 cf.lease, .int .i64 cf.late, .int .i64 cf.cap] 36)).alloc (.cells #[.int .i64 0, .int .i64 0, .int .i64 0, .int .i64 0, .int .i64 0, .int .i64 0, .int .i64 0, .int .i64 0, .int .i64 0, .slice none 0 0, .int .i64 0, .int .i64 0, .bool false] 116) := ⟨_, rfl⟩
  have hb0 : Below w.heap.size w w0 := by rw [hw0]; exact ((Below.refl _ _).alloc (Nat.le_refl _) _).alloc (by simp) _
  have hs0 : w0.heap.size = w.heap.size + 2 := by rw [hw0]; simp
  have hR0 : w0.heap[w.heap.size + 1]? = some (.cells #[.int .i64 0, .int .i64 0, .int .i64 0, .int .i64 0, .int .i64 0, .int .i64 0, .int .i64 0, .int .i64 0, .int .i64 0, .slice none 0 0, .int .i64 0, .int .i64 0, .bool false] 116 (0, 0)) := by
    have := alloc_at (w.alloc (.cells #[.int .i64 cf.maps, .int .i64 cf.reds, .int .i64 cf.wrk, .int .i64 cf.att, .int .i64 cf.bck, .int .i64 cf.lease, .int .i64 cf.late, .int .i64 cf.cap] 36)) (.cells #[.int .i64 0, .int .i64 0, .int .i64 0, .int .i64 0, .int .i64 0, .int .i64 0, .int .i64 0, .int .i64 0, .int .i64 0, .slice none 0 0, .int .i64 0, .int .i64 0, .bool false] 116)
    have hs : (w.alloc (.cells #[.int .i64 cf.maps, .int .i64 cf.reds, .int .i64 cf.wrk, .int .i64 cf.att, .int .i64 cf.bck, .int .i64 cf.lease, .int .i64 cf.late, .int .i64 cf.cap] 36)).heap.size = w.heap.size + 1 := by simp
    rw [hs] at this
    rw [hw0]; exact this
  obtain ⟨w3, hrun, hown3, hg3⟩ := run_make_full (P := Tryz.prog) w0.drew w.heap.size 114 205 i0 (.agg #[.bool false, .int .i64 0, .slice none 0 0]) 3 Tryz.underlying114 hi hz0 hz1 .i64 .i64 M (by rw [hz2]; omega) (by unfold maxLen; omega) (by show _ ≤ w0.heap.size; omega)
  have hb3 : Below w0.drew.heap.size w0.drew w3 := (Below.refl _ _).grown hg3 (Nat.le_refl _) (fun k hk => by cases hk)
  have hd : w0.drew.heap.size = w.heap.size + 2 := hs0
  have hbw : Below w.heap.size w w3 := hb0.drew.trans (hb3.mono (by omega))
  have hR3 : w3.heap[w.heap.size + 1]? = some (.cells #[.int .i64 0, .int .i64 0, .int .i64 0, .int .i64 0, .int .i64 0, .int .i64 0, .int .i64 0, .int .i64 0, .int .i64 0, .slice none 0 0, .int .i64 0, .int .i64 0, .bool false] 116 (0, 0)) := by rw [hb3.block _ (by omega)]; exact hR0
  have hC3 : w3.heap[w.heap.size]? = some (.cells #[.int .i64 cf.maps, .int .i64 cf.reds, .int .i64 cf.wrk, .int .i64 cf.att, .int .i64 cf.bck, .int .i64 cf.lease, .int .i64 cf.late, .int .i64 cf.cap] 36 (0, 0)) := by
    rw [hb3.block _ (by omega)]
    show w0.heap[w.heap.size]? = _
    rw [hw0, Below.heap_alloc _ _ w.heap.size (by simp)]
    exact alloc_at w _
  have k0 : w3.cell? ⟨w.heap.size, 0, none⟩ = some (.int .i64 cf.maps) := by simp [World.cell?, hC3]
  have k1 : w3.cell? ⟨w.heap.size, 1, none⟩ = some (.int .i64 cf.reds) := by simp [World.cell?, hC3]
  have k2 : w3.cell? ⟨w.heap.size, 2, none⟩ = some (.int .i64 cf.wrk) := by simp [World.cell?, hC3]
  have k3 : w3.cell? ⟨w.heap.size, 3, none⟩ = some (.int .i64 cf.att) := by simp [World.cell?, hC3]
  have k4 : w3.cell? ⟨w.heap.size, 4, none⟩ = some (.int .i64 cf.bck) := by simp [World.cell?, hC3]
  have k5 : w3.cell? ⟨w.heap.size, 5, none⟩ = some (.int .i64 cf.lease) := by simp [World.cell?, hC3]
  have k6 : w3.cell? ⟨w.heap.size, 6, none⟩ = some (.int .i64 cf.late) := by simp [World.cell?, hC3]
  have k7 : w3.cell? ⟨w.heap.size, 7, none⟩ = some (.int .i64 cf.cap) := by simp [World.cell?, hC3]
  have hT3 := fresh_at M hown3
  rw [hd] at hrun hT3
  rw [hw0] at hrun
  have fR : ∀ k, w3.frozen? ⟨w.heap.size + 1, k, none⟩ = false := by simp [World.frozen?, hR3]
  have r : ∀ k, w3.cell? ⟨w.heap.size + 1, k, none⟩ = #[.int .i64 0, .int .i64 0, .int .i64 0, .int .i64 0, .int .i64 0, .int .i64 0, .int .i64 0, .int .i64 0, .int .i64 0, .slice none 0 0, .int .i64 0, .int .i64 0, .bool false][k]? := by simp [World.cell?, hR3]
  have r0 := r 0
  have r1 := r 1
  have r2 := r 2
  have r3 := r 3
  have r4 := r 4
  have r5 := r 5
  have r6 := r 6
  have r7 := r 7
  have r8 := r 8
  have r9 := r 9
  have r10 := r 10
  have r11 := r 11
  have r12 := r 12
  clear r
  simp at r0 r1 r2 r3 r4 r5 r6 r7 r8 r9 r10 r11 r12
  have HT : Hid (TsAt w.heap.size w3 (.slice (some ⟨w.heap.size + 2, 0, none⟩) M M) (List.replicate M fresh) (List.replicate M (.slice none 0 0))) := hT3
  have HR : Hid (w3.heap[w.heap.size + 1]? = _) := hR3
  clear hown3 hg3 hT3 hR3 hC3 hb3 hR0 hb0 hw0
  rw [hM] at *
  go_enter Tryz.func48, Tryz.ntmps48
  go_wp2_with fail
  go_region
  go_wp2_with fail
  refine bodyPost_ret (v := .agg #[.int .i64 M, .int .i64 cf.reds, .int .i64 cf.wrk, .int .i64 cf.att, .int .i64 cf.bck, .int .i64 cf.lease, .int .i64 cf.late, .int .i64 cf.cap, .int .i64 1, .slice (some ⟨w.heap.size + 2, 0, none⟩) M M, .int .i64 0, .int .i64 0, .bool false]) (by simp [results, Tryz.results48, go_sem, r0, r1, r2, r3, r4, r5, r6, r7, r8, r9, r10, r11, r12]) rfl ⟨w.heap.size + 2, rfl, ?_, ?_⟩
  · refine HT.out.but HR.out (by decide) (by decide) (fun k hk => ?_)
    iterate 13 rw [Below.heap_setCell _ ⟨w.heap.size + 1, _, none⟩ _ k hk]
  · iterate 13 refine Below.setCell (p := ⟨_, _, none⟩) ?_ (by simp) _
    exact hbw

theorem alloc_below_own {w : World} (o : Obj) : Below w.heap.size w (w.alloc o) := (Below.refl _ _).alloc (Nat.le_refl _) _
set_option maxHeartbeats 1000000 in
set_option maxRecDepth 100000 in
theorem newTable (cf : Cf) (M : Nat) (hM : cf.maps = (M : Int)) (hok : cf.ok) (w : World) :
    Calls Tryz.prog 26 #[.agg #[.int .i64 cf.maps, .int .i64 cf.reds, .int .i64 cf.wrk, .int .i64 cf.att, .int .i64 cf.bck, .int .i64 cf.lease, .int .i64 cf.late, .int .i64 cf.cap]] w fun e w' => ∃ Tb, e = .returned (.tuple #[.pointer (some ⟨Tb, 0, none⟩), .nilIface]) ∧ w.heap.size ≤ Tb ∧ (∃ tv vs, TbAt w.heap.size Tb 0 cf w' ⟨1, List.replicate M fresh, 0, 0, false⟩ tv vs) ∧ Below w.heap.size w w' := by
  have hM2 : M ≤ 16 := by have := hok.1.2; omega
  have hb0 : Below w.heap.size w (w.alloc (.cells #[.int .i64 cf.maps, .int .i64 cf.reds, .int .i64 cf.wrk, .int .i64 cf.att, .int .i64 cf.bck, .int .i64 cf.lease, .int .i64 cf.late, .int .i64 cf.cap] 36)) := (Below.refl _ _).alloc (Nat.le_refl _) _
  have HM : Hid (Calls Tryz.prog 47 #[.agg #[.int .i64 cf.maps, .int .i64 cf.reds, .int .i64 cf.wrk, .int .i64 cf.att, .int .i64 cf.bck, .int .i64 cf.lease, .int .i64 cf.late, .int .i64 cf.cap]] (w.alloc (.cells #[.int .i64 cf.maps, .int .i64 cf.reds, .int .i64 cf.wrk, .int .i64 cf.att, .int .i64 cf.bck, .int .i64 cf.lease, .int .i64 cf.late, .int .i64 cf.cap] 36)) fun e w1 => e = .returned (.bool true) ∧ (w1.cell? ⟨w.heap.size, 0, none⟩ = some (.int .i64 cf.maps) ∧ w1.cell? ⟨w.heap.size, 1, none⟩ = some (.int .i64 cf.reds) ∧ w1.cell? ⟨w.heap.size, 2, none⟩ = some (.int .i64 cf.wrk) ∧ w1.cell? ⟨w.heap.size, 3, none⟩ = some (.int .i64 cf.att) ∧ w1.cell? ⟨w.heap.size, 4, none⟩ = some (.int .i64 cf.bck) ∧ w1.cell? ⟨w.heap.size, 5, none⟩ = some (.int .i64 cf.lease) ∧ w1.cell? ⟨w.heap.size, 6, none⟩ = some (.int .i64 cf.late) ∧ w1.cell? ⟨w.heap.size, 7, none⟩ = some (.int .i64 cf.cap)) ∧
      Calls Tryz.prog 48 #[.agg #[.int .i64 cf.maps, .int .i64 cf.reds, .int .i64 cf.wrk, .int .i64 cf.att, .int .i64 cf.bck, .int .i64 cf.lease, .int .i64 cf.late, .int .i64 cf.cap]] w1 fun e w2 => ∃ g, e = .returned (.agg #[.int .i64 cf.maps, .int .i64 cf.reds, .int .i64 cf.wrk, .int .i64 cf.att, .int .i64 cf.bck, .int .i64 cf.lease, .int .i64 cf.late, .int .i64 cf.cap, .int .i64 1, .slice (some ⟨g, 0, none⟩) M M, .int .i64 0, .int .i64 0, .bool false]) ∧ w.heap.size ≤ w2.heap.size ∧ (∃ tv vs, TbAt w.heap.size w2.heap.size 0 cf (w2.alloc (.cells #[.int .i32 0, .int .u32 0, .int .i64 cf.maps, .int .i64 cf.reds, .int .i64 cf.wrk, .int .i64 cf.att, .int .i64 cf.bck, .int .i64 cf.lease, .int .i64 cf.late, .int .i64 cf.cap, .int .i64 1, .slice (some ⟨g, 0, none⟩) M M, .int .i64 0, .int .i64 0, .bool false] 126)) ⟨1, List.replicate M fresh, 0, 0, false⟩ tv vs) ∧ Below w.heap.size w (w2.alloc (.cells #[.int .i32 0, .int .u32 0, .int .i64 cf.maps, .int .i64 cf.reds, .int .i64 cf.wrk, .int .i64 cf.att, .int .i64 cf.bck, .int .i64 cf.lease, .int .i64 cf.late, .int .i64 cf.cap, .int .i64 1, .slice (some ⟨g, 0, none⟩) M M, .int .i64 0, .int .i64 0, .bool false] 126))) := by
    refine (mayBe cf _).mono ?_
    rintro e w1 ⟨rfl, hb1⟩
    have hc : ∀ k, w1.cell? ⟨w.heap.size, k, none⟩ = #[.int .i64 cf.maps, .int .i64 cf.reds, .int .i64 cf.wrk, .int .i64 cf.att, .int .i64 cf.bck, .int .i64 cf.lease, .int .i64 cf.late, .int .i64 cf.cap][k]? := fun k => by
      rw [hb1.cell (p := ⟨w.heap.size, k, none⟩) (by simp), World.cell?_alloc_at _ _ _ _ (by simp)]
    have hs1 := hb1.size
    simp at hs1
    refine ⟨by rw [decide_eq_true hok], ⟨hc 0, hc 1, hc 2, hc 3, hc 4, hc 5, hc 6, hc 7⟩, ?_⟩
    refine (newBook cf M hM hM2 w1).mono ?_
    rintro e w2 ⟨g, rfl, hT, hb2⟩
    have hs2 := hb2.size
    have hbw : Below w.heap.size w w2 := (hb0.trans (hb1.mono (by simp))).trans (hb2.mono (by omega))
    refine ⟨g, rfl, by omega, ⟨.slice (some ⟨g, 0, none⟩) M M, List.replicate M (.slice none 0 0), alloc_at w2 _, ?_⟩, hbw.alloc (by omega) _⟩
    have hT2 : TsAt w.heap.size w2 (.slice (some ⟨g, 0, none⟩) M M) (List.replicate M fresh) (List.replicate M (.slice none 0 0)) := ⟨own_mono hT.row (by omega), hT.len, fun k hk hv => own_mono (hT.live k hk hv) (by omega), hT.dis⟩
    exact hT2.below (alloc_below_own _)
  clear hb0 hM hM2 hok
  go_enter Tryz.func26, Tryz.ntmps26
  go_wp2_with (first | (go_at_call 47; refine HM.out.mono ?_; rintro e w1 ⟨rfl, ⟨k0, k1, k2, k3, k4, k5, k6, k7⟩, HB⟩) | (go_at_call 48; refine HB.mono ?_; rintro e w2 ⟨g, rfl, hle, hT, hb2⟩))
  go_ret2
  exact ⟨_, rfl, hle, hT, hb2⟩

set_option maxHeartbeats 1000000 in
set_option maxRecDepth 100000 in
theorem newTable_no (cf : Cf) (hno : ¬ cf.ok) (w : World) (p0 : Addr) (h0 : w.cell? ⟨0, 0, none⟩ = some (.iface 513 (.pointer (some p0)))) :
    Calls Tryz.prog 26 #[.agg #[.int .i64 cf.maps, .int .i64 cf.reds, .int .i64 cf.wrk, .int .i64 cf.att, .int .i64 cf.bck, .int .i64 cf.lease, .int .i64 cf.late, .int .i64 cf.cap]] w fun e w' => e = .returned (.tuple #[.pointer none, .iface 513 (.pointer (some p0))]) ∧ Below w.heap.size w w' := by
  have hb0 : Below w.heap.size w (w.alloc (.cells #[.int .i64 cf.maps, .int .i64 cf.reds, .int .i64 cf.wrk, .int .i64 cf.att, .int .i64 cf.bck, .int .i64 cf.lease, .int .i64 cf.late, .int .i64 cf.cap] 36)) := (Below.refl _ _).alloc (Nat.le_refl _) _
  have HM : Hid (Calls Tryz.prog 47 #[.agg #[.int .i64 cf.maps, .int .i64 cf.reds, .int .i64 cf.wrk, .int .i64 cf.att, .int .i64 cf.bck, .int .i64 cf.lease, .int .i64 cf.late, .int .i64 cf.cap]] (w.alloc (.cells #[.int .i64 cf.maps, .int .i64 cf.reds, .int .i64 cf.wrk, .int .i64 cf.att, .int .i64 cf.bck, .int .i64 cf.lease, .int .i64 cf.late, .int .i64 cf.cap] 36)) fun e w1 => e = .returned (.bool false) ∧ w1.cell? ⟨0, 0, none⟩ = some (.iface 513 (.pointer (some p0))) ∧ Below w.heap.size w w1) := by
    refine (mayBe cf _).mono ?_
    rintro e w1 ⟨rfl, hb1⟩
    have hb2 := hb0.trans (hb1.mono (by simp))
    exact ⟨by rw [decide_eq_false hno], (hb2.cell (p := ⟨0, 0, none⟩) (hp_lt h0)).trans h0, hb2⟩
  clear hb0 h0 hno
  go_enter Tryz.func26, Tryz.ntmps26
  go_wp2_with (go_at_call 47; refine HM.out.mono ?_; rintro e w1 ⟨rfl, z0, hb1⟩)
  go_quiet (fail)
  go_wp2
  go_ret2
  exact ⟨rfl, below_drewN hb1 _⟩
end Go.Proofs.YtibofakbhgmhiabGreatDoor
