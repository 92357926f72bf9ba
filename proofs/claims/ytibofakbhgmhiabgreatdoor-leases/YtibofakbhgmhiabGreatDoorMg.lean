import Derived.Test.YtibofakbhgmhiabGreatDoorTl3
namespace Go.Proofs.YtibofakbhgmhiabGreatDoor
open Go.RowKit

theorem equalIn_nilFunc (W : World) (d : Nat) (t : TypeId) (ps rs : Array TypeId) (v : Bool) (fn : Fn) (a b : Array Value) (h : Tryz.prog.underlying t = some (.func ps rs v)) : (Op.equalIn (d + 1) t (.func fn a b) .nilFunc).run Tryz.prog W = .ok false W := by
  simp [Op.equalIn, run_underlying h]
theorem eq_nilFunc (W : World) (t : TypeId) (ps rs : Array TypeId) (v : Bool) (fn : Fn) (a b : Array Value) (h : Tryz.prog.underlying t = some (.func ps rs v)) : (binOp .eql t (.func fn a b) .nilFunc).run Tryz.prog W = .ok (.bool false) W := by
  simp only [binOp]
  simp [Op.equal, Op.maxDepth, equalIn_nilFunc W 9999 t ps rs v fn a b h]
theorem ne_nilFunc (W : World) (t : TypeId) (ps rs : Array TypeId) (v : Bool) (fn : Fn) (a b : Array Value) (h : Tryz.prog.underlying t = some (.func ps rs v)) : (binOp .neq t (.func fn a b) .nilFunc).run Tryz.prog W = .ok (.bool true) W := by
  simp only [binOp]
  simp [Op.equal, Op.maxDepth, equalIn_nilFunc W 9999 t ps rs v fn a b h]

theorem alloc_at (w : World) (o : Obj) : (w.alloc o).heap[w.heap.size]? = some o := by
  show (w.heap.push _)[w.heap.size]? = _
  exact Array.getElem?_push_size

set_option maxHeartbeats 1000000 in
set_option maxRecDepth 100000 in
theorem mmerge (w : World) (v : Value) (rs : List Rn) (ho : RunsAt w v rs) (hn : rs.length ≤ 1048576) (hr : ∀ r ∈ rs, r.length ≤ 1048576) :
    Calls Tryz.prog 75 #[.func (.func 76) #[] #[], v] w fun e w' => ∃ Ob v', e = .returned (.func (.func 149) #[] #[.pointer (some ⟨w.heap.size, 0, none⟩), .pointer (some ⟨Ob, 0, none⟩)]) ∧
      w'.heap[w.heap.size]? = some (.cells #[.func (.func 76) #[] #[]] 175 (0, 0)) ∧ w'.heap[Ob]? = some (.cells #[v'] 103 (0, 0)) ∧ RunsSt (· < w.heap.size) w' v' rs ∧ w.heap.size ≤ Ob ∧ Below w.heap.size w w' := by
  have hb0 : Below w.heap.size w (w.alloc (.cells #[.func (.func 76) #[] #[]] 175)) := (Below.refl _ _).alloc (Nat.le_refl _) _
  have HC : Hid (Calls Tryz.prog 148 #[v] (w.alloc (.cells #[.func (.func 76) #[] #[]] 175)) fun e w1 => ∃ a c, e = .returned (.slice a rs.length c) ∧ ((w1.alloc (.cells #[.slice a rs.length c] 103)).heap[w.heap.size]? = some (.cells #[.func (.func 76) #[] #[]] 175 (0, 0)) ∧ RunsSt (· < w.heap.size) (w1.alloc (.cells #[.slice a rs.length c] 103)) (.slice a rs.length c) rs ∧ w.heap.size ≤ w1.heap.size ∧ Below w.heap.size w (w1.alloc (.cells #[.slice a rs.length c] 103)))) := by
    refine (copyRuns _ v rs (ho.below hb0) hn hr).mono ?_
    rintro e w1 ⟨v', rfl, hs, hb1⟩
    obtain ⟨a, c, rfl, _⟩ := id hs
    have hsz := hb1.size
    simp at hsz
    have hba : Below w1.heap.size w1 (w1.alloc (.cells #[.slice a rs.length c] 103)) := (Below.refl _ _).alloc (Nat.le_refl _) _
    refine ⟨a, c, rfl, ?_, hs.on (Kp.of_below hba) (fun i _ h => by simp; omega), by omega, ?_⟩
    · rw [hba.block _ (by omega), hb1.block _ (by simp)]; exact alloc_at _ _
    · exact (hb0.trans (hb1.mono (by simp))).trans (hba.mono (by omega))
  have qE : ∀ (W : World) (fn : Fn) (a b : Array Value), (binOp .eql 175 (.func fn a b) .nilFunc).run Tryz.prog W = .ok (.bool false) W := fun W fn a b => eq_nilFunc W 175 _ _ _ fn a b Tryz.underlying175
  clear ho hb0
  go_enter Tryz.func75, Tryz.ntmps75
  go_wp2_with (go_at_call 148; refine HC.out.mono ?_; rintro e w1 ⟨a, c, rfl, h1, h2, h3, h4⟩)
  go_ret
  exact ⟨_, _, rfl, h1, alloc_at _ _, h2, h3, h4⟩

set_option maxHeartbeats 1000000 in
set_option maxRecDepth 100000 in
theorem mmerge2 {B Nb Lv Mb Kb Ob : Nat} {n : Int} {w : World} {v : Value} {rs : List Rn} (hk : w.heap[Kb]? = some (.cells #[.func (.func 76) #[] #[]] 175 (0, 0))) (hO : w.heap[Ob]? = some (.cells #[v] 103 (0, 0))) (hst : RunsSt (· = Lv) w v rs) (hR : Rises rs) (hn : rs.length ≤ 1048576) (hTo : total rs ≤ 1048576) (h : YAt B Nb Lv Mb n (.slice none 0 0) w []) (hB : B ≤ w.heap.size) :
    Calls Tryz.prog 149 #[.func (.func 77) #[] #[.pointer (some ⟨Nb, 0, none⟩), .pointer (some ⟨Lv, 0, none⟩), .pointer (some ⟨Mb, 0, none⟩)], .pointer (some ⟨Kb, 0, none⟩), .pointer (some ⟨Ob, 0, none⟩)] w fun e w' => e = .returned (.tuple #[]) ∧ Told w B Nb Lv Mb n rs w' := by
  have HT : Hid (Calls Tryz.prog 150 #[.func (.func 76) #[] #[], v, .func (.func 77) #[] #[.pointer (some ⟨Nb, 0, none⟩), .pointer (some ⟨Lv, 0, none⟩), .pointer (some ⟨Mb, 0, none⟩)]] w fun e w' => e = .returned (.tuple #[]) ∧ Told w B Nb Lv Mb n rs w') := tell hst hR hn hTo h hB
  have c1 := cell_of_one hk
  have c2 := cell_of_one hO
  obtain ⟨a, c, rfl, _⟩ := hst
  have qE : ∀ (W : World) (fn : Fn) (a b : Array Value), (binOp .neq 176 (.func fn a b) .nilFunc).run Tryz.prog W = .ok (.bool true) W := fun W fn a b => ne_nilFunc W 176 _ _ _ fn a b Tryz.underlying176
  clear hk hO h
  go_enter Tryz.func149, Tryz.ntmps149
  go_wp2_with (go_at_call 150; refine HT.out.mono ?_; rintro e w1 ⟨rfl, h1⟩)
  go_end0
  exact ⟨rfl, h1⟩

set_option maxHeartbeats 1000000 in
set_option maxRecDepth 100000 in
theorem pmerge (w : World) (v : Value) (rs : List Rn) (n : Int) (ho : RunsAt w v rs) (hn : rs.length ≤ 1048576) (hr : ∀ r ∈ rs, r.length ≤ 1048576) (hR : Rises rs) (hTo : total rs ≤ 1048576) :
    Calls Tryz.prog 39 #[v, .int .i64 n] w fun e w' => ∃ lv tr got, e = .returned (.tuple #[lv, .bool false]) ∧ Tr rs tr got ∧ tr.length = wantN n (total rs) ∧ w'.ownsRow w.heap.size 106 2 lv got.length (rc got) ∧ Below w.heap.size w w' := by
  have hb3 : Below w.heap.size w (((w.alloc (.cells #[.int .i64 n] 3)).alloc (.cells #[.slice none 0 0] 104)).alloc (.cells #[.bool false] 4)) := (((Below.refl _ _).alloc (Nat.le_refl _) _).alloc (by simp) _).alloc (by simp; omega) _
  have Y3 : YAt w.heap.size w.heap.size (w.heap.size + 1) (w.heap.size + 2) n (.slice none 0 0) (((w.alloc (.cells #[.int .i64 n] 3)).alloc (.cells #[.slice none 0 0] 104)).alloc (.cells #[.bool false] 4)) [] := by
    refine ⟨?_, ?_, ?_, World.ownsRow_nil _ _ _ _⟩
    · rw [Below.heap_alloc _ _ _ (by simp; omega), Below.heap_alloc _ _ _ (by simp)]; exact alloc_at _ _
    · rw [Below.heap_alloc _ _ _ (by simp), show w.heap.size + 1 = (w.alloc (.cells #[.int .i64 n] 3)).heap.size from by simp]; exact alloc_at _ _
    · rw [show w.heap.size + 2 = ((w.alloc (.cells #[.int .i64 n] 3)).alloc (.cells #[.slice none 0 0] 104)).heap.size from by simp]; exact alloc_at _ _
  have HM : Hid (Calls Tryz.prog 75 #[.func (.func 76) #[] #[], v] (((w.alloc (.cells #[.int .i64 n] 3)).alloc (.cells #[.slice none 0 0] 104)).alloc (.cells #[.bool false] 4)) fun e w1 => ∃ Kb Ob, e = .returned (.func (.func 149) #[] #[.pointer (some ⟨Kb, 0, none⟩), .pointer (some ⟨Ob, 0, none⟩)]) ∧
      Calls Tryz.prog 149 #[.func (.func 77) #[] #[.pointer (some ⟨w.heap.size, 0, none⟩), .pointer (some ⟨w.heap.size + 1, 0, none⟩), .pointer (some ⟨w.heap.size + 2, 0, none⟩)], .pointer (some ⟨Kb, 0, none⟩), .pointer (some ⟨Ob, 0, none⟩)] w1 fun e w' => e = .returned (.tuple #[]) ∧ ∃ a l c tr got, w'.cell? ⟨w.heap.size + 1, 0, none⟩ = some (.slice a l c) ∧ w'.cell? ⟨w.heap.size + 2, 0, none⟩ = some (.bool false) ∧ Tr rs tr got ∧ tr.length = wantN n (total rs) ∧ w'.ownsRow w.heap.size 106 2 (.slice a l c) got.length (rc got) ∧ Below w.heap.size w w') := by
    refine (mmerge _ v rs (ho.below hb3) hn hr).mono ?_
    rintro e w1 ⟨Ob, v', rfl, k1, k2, hs, hO, hb⟩
    have hsz := hb.size
    simp at hsz
    have hb' : Below w.heap.size w w1 := hb3.trans (hb.mono (by simp; omega))
    refine ⟨_, Ob, rfl, (mmerge2 k1 k2 (hs.on (Kp.refl _ _) (fun i _ e => by subst e; simp)) hR hn hTo (Y3.below hb) (by omega)).mono ?_⟩
    rintro e w2 ⟨rfl, tr, got, lv, hT, hl, hY, _, hK⟩
    obtain ⟨a, c, rfl⟩ := hown_slice hY.own
    exact ⟨rfl, a, _, c, tr, got, cell_of_one hY.lb, cell_of_one hY.mb, hT, hl, hY.own, hb'.trans (hK.below (by omega) (fun k hk e => by omega))⟩
  have qE : ∀ (W : World) (fn : Fn) (a b : Array Value), (binOp .eql 173 (.func fn a b) .nilFunc).run Tryz.prog W = .ok (.bool false) W := fun W fn a b => eq_nilFunc W 173 _ _ _ fn a b Tryz.underlying173
  clear ho Y3 hb3
  go_enter Tryz.func39, Tryz.ntmps39
  go_wp2_with (first | (go_at_call 75; refine HM.out.mono ?_; rintro e w1 ⟨Kb, Ob, rfl, HC⟩) | (go_at_call 149; refine HC.mono ?_; rintro e w2 ⟨rfl, a, l, c, tr, got, c1, c2, hT, hl, hown, hb⟩))
  go_quiet (fail)
  go_wp2
  go_ret2
  exact ⟨_, tr, got, rfl, hT, hl, hown_below hown (below_drewN (Below.refl _ _) _), below_drewN hb _⟩
end Go.Proofs.YtibofakbhgmhiabGreatDoor
