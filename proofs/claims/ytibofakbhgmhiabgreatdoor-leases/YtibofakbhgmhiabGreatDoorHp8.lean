import Derived.Test.YtibofakbhgmhiabGreatDoorHp7
namespace Go.Proofs.YtibofakbhgmhiabGreatDoor
open Go.RowKit

theorem Vars.cells {n0 : Nat} {w : World} {k t r n : Int} (h : Vars n0 w k t r n) :
    (w.cell? ⟨n0, 0, none⟩ = some (.int .i64 0) ∧ w.cell? ⟨n0, 1, none⟩ = some (.int .i64 0) ∧ w.cell? ⟨n0, 2, none⟩ = some (.int .i64 0) ∧ w.cell? ⟨n0, 3, none⟩ = some (.int .i64 0)) ∧ (∀ j, w.frozen? ⟨n0, j, none⟩ = false) ∧
    (w.cell? ⟨n0 + 1, 0, none⟩ = some (.int .i64 0) ∧ w.cell? ⟨n0 + 1, 1, none⟩ = some (.int .i64 0) ∧ w.cell? ⟨n0 + 1, 2, none⟩ = some (.int .i64 0) ∧ w.cell? ⟨n0 + 1, 3, none⟩ = some (.int .i64 0)) ∧
    (w.cell? ⟨n0 + 2, 0, none⟩ = some (.int .i64 k) ∧ w.cell? ⟨n0 + 2, 1, none⟩ = some (.int .i64 t) ∧ w.cell? ⟨n0 + 2, 2, none⟩ = some (.int .i64 r) ∧ w.cell? ⟨n0 + 2, 3, none⟩ = some (.int .i64 n)) := by
  simp [World.cell?, World.frozen?, h.v0, h.v1, h.v2]
theorem HpAt.cap {B Hb Lb g cap : Nat} {w : World} {xs : List Hd} (h : HpAt B Hb Lb g cap w xs) : xs.length ≤ cap := by
  rcases h.own.2 with ⟨hn, _⟩ | ⟨g', cap', cur, hv, hb, hg, hnc, _⟩
  · cases hn
  · simp only [Value.slice.injEq, Option.some.injEq, Addr.mk.injEq] at hv
    obtain ⟨_, _, rfl⟩ := hv
    exact hnc
theorem HpAt.other {B Hb Lb g cap : Nat} {w : World} {xs : List Hd} (h : HpAt B Hb Lb g cap w xs) {b j : Nat} (h1 : Hb ≠ b) (h2 : Lb ≠ b) (h3 : g ≠ b) (v : Value) : HpAt B Hb Lb g cap (w.setCell ⟨b, j, none⟩ v) xs :=
  ⟨blk_setCell h.blk h1, blk_setCell h.lss h2, ownsRow_setCell_other h.own (by simpa [Value.ownBlock] using h3) _⟩
theorem sinkL_nil : sinkL [] 0 = [] := by rw [sinkL, dif_neg (by simp)]
/-- sink at 0, of whatever heap -/
theorem hsink0 {B Hb Lb g cap : Nat} {w : World} {xs : List Hd} (h : HpAt B Hb Lb g cap w xs) (hn : xs.length ≤ 1099511627776) :
    Calls Tryz.prog 283 #[.pointer (some ⟨Hb, 0, none⟩), .int .i64 0] w fun e w' => e = .returned (.tuple #[]) ∧ HpAt B Hb Lb g cap w' (sinkL xs 0) ∧ Kp (· = g) w w' := by
  rcases xs with _ | ⟨x, xs⟩
  · rw [sinkL_nil]; exact hsink_nil h
  · exact hsink h 0 (by simp) hn
theorem Vars.kp {n0 : Nat} {w w' : World} {k t r n : Int} {P : Nat → Prop} (h : Vars n0 w k t r n) (hk : Kp P w w') (hp : ∀ i, n0 ≤ i → ¬ P i) : Vars n0 w' k t r n :=
  ⟨by rw [hk.block _ (lt_of_block h.v0) (hp _ (by omega))]; exact h.v0, by rw [hk.block _ (lt_of_block h.v1) (hp _ (by omega))]; exact h.v1, by rw [hk.block _ (lt_of_block h.v2) (hp _ (by omega))]; exact h.v2⟩

theorem vars_new (w : World) (k t r n : Int) : Vars w.heap.size (((w.alloc (.cells #[.int .i64 0, .int .i64 0, .int .i64 0, .int .i64 0] 384)).alloc (.cells #[.int .i64 0, .int .i64 0, .int .i64 0, .int .i64 0] 384)).alloc (.cells #[.int .i64 k, .int .i64 t, .int .i64 r, .int .i64 n] 384)) k t r n := by
  refine ⟨?_, ?_, ?_⟩
  · rw [Below.heap_alloc _ _ _ (by simp; omega), Below.heap_alloc _ _ _ (by simp)]
    show (w.heap.push _)[w.heap.size]? = _
    simp
  · rw [Below.heap_alloc _ _ _ (by simp), show w.heap.size + 1 = (w.alloc (.cells #[.int .i64 0, .int .i64 0, .int .i64 0, .int .i64 0] 384)).heap.size from by simp]
    show ((w.alloc _).heap.push _)[_]? = _
    exact Array.getElem?_push_size
  · rw [show w.heap.size + 2 = ((w.alloc (.cells #[.int .i64 0, .int .i64 0, .int .i64 0, .int .i64 0] 384)).alloc (.cells #[.int .i64 0, .int .i64 0, .int .i64 0, .int .i64 0] 384)).heap.size from by simp]
    show (((w.alloc _).alloc _).heap.push _)[_]? = _
    exact Array.getElem?_push_size

set_option maxHeartbeats 4000000 in
set_option maxRecDepth 100000 in
theorem hpop {B Hb Lb g cap : Nat} {w : World} {xs : List Hd} (h : HpAt B Hb Lb g cap w xs) (m : Nat) (hx : xs.length = m + 1) (hn : xs.length ≤ 1099511627776) :
    Calls Tryz.prog 233 #[.pointer (some ⟨Hb, 0, none⟩)] w fun e w' => e = .returned (.tuple #[.agg #[.int .i64 xs[0].K, .int .i64 xs[0].T, .int .i64 xs[0].r, .int .i64 xs[0].n], .bool true]) ∧ HpAt B Hb Lb g cap w' (sinkL ((xs.set 0 (xs[m]'(by omega))).take m) 0) ∧ Kp (fun i => i = Hb ∨ i = g) w w' := by
  have hHl := lt_of_block h.blk
  have hgl := h.gB.2
  have hHg := h.ne.1
  have hLl := lt_of_block h.lss
  obtain ⟨z, hz⟩ : ∃ z, z = xs[0] := ⟨_, rfl⟩
  obtain ⟨y, hy⟩ : ∃ y, y = xs[m] := ⟨_, rfl⟩
  have hb3 : Below w.heap.size w (((w.alloc (.cells #[.int .i64 0, .int .i64 0, .int .i64 0, .int .i64 0] 384)).alloc (.cells #[.int .i64 0, .int .i64 0, .int .i64 0, .int .i64 0] 384)).alloc (.cells #[.int .i64 z.K, .int .i64 z.T, .int .i64 z.r, .int .i64 z.n] 384)) := (((Below.refl _ _).alloc (Nat.le_refl _) _).alloc (by simp) _).alloc (by simp; omega) _
  have h3 := h.below hb3
  have V3 := vars_new w z.K z.T z.r z.n
  have c1 := h.hcell.2.1
  obtain ⟨a0, a1, a2, a3⟩ := h.cells 0 (by omega)
  rw [← hz] at a0 a1 a2 a3 ⊢
  obtain ⟨kz, tz, rz, nz⟩ := z
  simp only at a0 a1 a2 a3 h3 V3 hb3 ⊢
  have c1a : ∀ o, (w.alloc o).cell? ⟨Hb, 1, none⟩ = some (.slice (some ⟨g, 0, none⟩) (m + 1) cap) := fun o => by rw [World.cell?_alloc_lt _ _ _ hHl, c1, hx]
  have c1b : ∀ o o', ((w.alloc o).alloc o').cell? ⟨Hb, 1, none⟩ = some (.slice (some ⟨g, 0, none⟩) (m + 1) cap) := fun o o' => by rw [World.cell?_alloc_lt _ _ _ (by simp; omega), c1a]
  have a0b : ∀ o o', ((w.alloc o).alloc o').cell? ⟨g, 0, none⟩ = some (.int .i64 kz) := fun o o' => by rw [World.cell?_alloc_lt _ _ _ (by simp; omega), World.cell?_alloc_lt _ _ _ hgl]; exact a0
  have a1b : ∀ o o', ((w.alloc o).alloc o').cell? ⟨g, 1, none⟩ = some (.int .i64 tz) := fun o o' => by rw [World.cell?_alloc_lt _ _ _ (by simp; omega), World.cell?_alloc_lt _ _ _ hgl]; exact a1
  have a2b : ∀ o o', ((w.alloc o).alloc o').cell? ⟨g, 2, none⟩ = some (.int .i64 rz) := fun o o' => by rw [World.cell?_alloc_lt _ _ _ (by simp; omega), World.cell?_alloc_lt _ _ _ hgl]; exact a2
  have a3b : ∀ o o', ((w.alloc o).alloc o').cell? ⟨g, 3, none⟩ = some (.int .i64 nz) := fun o o' => by rw [World.cell?_alloc_lt _ _ _ (by simp; omega), World.cell?_alloc_lt _ _ _ hgl]; exact a3
  have c1c : ∀ o o' o'', (((w.alloc o).alloc o').alloc o'').cell? ⟨Hb, 1, none⟩ = some (.slice (some ⟨g, 0, none⟩) (m + 1) cap) := fun o o' o'' => by rw [World.cell?_alloc_lt _ _ _ (by simp; omega), c1b]
  obtain ⟨y0, y1, y2, y3⟩ := h3.cells m (by omega)
  obtain ⟨x0, x1, x2, x3⟩ := h3.cells 0 (by omega)
  have fz := fun j => h3.own.frozenAt j
  have HP := h3.put 0 y
  rw [← hy] at y0 y1 y2 y3 ⊢
  rw [← hz] at x0 x1 x2 x3
  obtain ⟨ky, ty, ry, ny⟩ := y
  simp only [Nat.zero_mul, Nat.zero_add] at y0 y1 y2 y3 HP x0 x1 x2 x3
  have HP' : Hid (HpAt B Hb Lb g cap _ (xs.set 0 ⟨ky, ty, ry, ny⟩)) := HP
  have HV : Hid (Vars w.heap.size _ kz tz rz nz) := (((V3.put (j := 0) hgl (.int .i64 ky)).put (j := 1) hgl (.int .i64 ty)).put (j := 2) hgl (.int .i64 ry)).put (j := 3) hgl (.int .i64 ny)
  have HKp : Hid (Kp (fun i => i = Hb ∨ i = g) w _) := ((((Kp.of_below (P := fun i => i = Hb ∨ i = g) hb3).setCell (j := 0) (fun _ => .inr rfl) (.int .i64 ky)).setCell (j := 1) (fun _ => .inr rfl) (.int .i64 ty)).setCell (j := 2) (fun _ => .inr rfl) (.int .i64 ry)).setCell (j := 3) (fun _ => .inr rfl) (.int .i64 ny)
  have hm : m ≤ 1099511627776 := by omega
  have HX : Hid (xs.length = m + 1) := hx
  clear a0 a1 a2 a3 HP h3 V3 hb3 hy hz c1 h hn hx
  go_enter Tryz.func233, Tryz.ntmps233
  go_upto_region 6 with fail
  go_cut [6] (fun l wc => l = .int .i64 m ∧ HpAt B Hb Lb g cap wc (xs.set 0 ⟨ky, ty, ry, ny⟩) ∧ Vars w.heap.size wc kz tz rz nz ∧ Kp (fun i => i = Hb ∨ i = g) w wc)
  case first =>
    go_region
    all_goals (go_wp2_with fail)
    all_goals go_meet
    all_goals exact ⟨by go_num, HP'.out.drew, HV.out.drew, HKp.out.drew⟩
  case rest =>
    obtain ⟨rfl, h4, V4, K4⟩ := hcut
    clear c1a c1b c1c a0b a1b a2b a3b y0 y1 y2 y3 x0 x1 x2 x3 fz HP' HV HKp
    have HL4 : Hid ((xs.set 0 ⟨ky, ty, ry, ny⟩).length = m + 1) := by show _ = _; rw [List.length_set]; exact HX.out
    have HT : Hid ((xs.set 0 ⟨ky, ty, ry, ny⟩).take m = ((xs.set 0 ⟨ky, ty, ry, ny⟩).set m zHd).take m) := by
      show _ = _
      rw [List.take_set_of_le (Nat.le_refl m)]
    obtain ⟨zs, hzs⟩ : ∃ zs, zs = xs.set 0 ⟨ky, ty, ry, ny⟩ := ⟨_, rfl⟩
    rw [← hzs] at h4 HL4 HT
    have HZS : Hid (zs = xs.set 0 ⟨ky, ty, ry, ny⟩) := hzs
    clear hzs
    have c4 : wc.cell? ⟨Hb, 1, none⟩ = some (.slice (some ⟨g, 0, none⟩) (m + 1) cap) := by rw [h4.hcell.2.1, HL4.out]
    obtain ⟨e0, e1, e2, e3⟩ := h4.cells m (by rw [HL4.out]; omega)
    have fz := fun j => h4.own.frozenAt j
    obtain ⟨_, _, ⟨z0, z1, z2, z3⟩, _⟩ := V4.cells
    have HP := h4.put m zHd
    simp only [zHd] at HP
    have HP' : Hid (HpAt B Hb Lb g cap _ (zs.set m zHd)) := HP
    have HV : Hid (Vars w.heap.size _ kz tz rz nz) := (((V4.put (j := m * 4) hgl (.int .i64 0)).put (j := m * 4 + 1) hgl (.int .i64 0)).put (j := m * 4 + 2) hgl (.int .i64 0)).put (j := m * 4 + 3) hgl (.int .i64 0)
    have HKp : Hid (Kp (fun i => i = Hb ∨ i = g) w _) := (((K4.setCell (j := m * 4) (fun _ => .inr rfl) (.int .i64 0)).setCell (j := m * 4 + 1) (fun _ => .inr rfl) (.int .i64 0)).setCell (j := m * 4 + 2) (fun _ => .inr rfl) (.int .i64 0)).setCell (j := m * 4 + 3) (fun _ => .inr rfl) (.int .i64 0)
    clear HP h4 V4 K4
    go_upto_region 7 with fail
    go_cut [6] (fun l wd => l = .int .i64 m ∧ HpAt B Hb Lb g cap wd (zs.set m zHd) ∧ Vars w.heap.size wd kz tz rz nz ∧ Kp (fun i => i = Hb ∨ i = g) w wd)
    case first =>
      go_region
      all_goals (go_wp2_with fail)
      all_goals go_meet
      all_goals exact ⟨by go_num, HP'.out.drew, HV.out.drew, HKp.out.drew⟩
    case rest =>
      obtain ⟨rfl, h5, V5, K5⟩ := hcut
      clear c4 e0 e1 e2 e3 fz z0 z1 z2 z3 HP' HV HKp
      have hl5 : (zs.set m zHd).length = m + 1 := by rw [List.length_set]; exact HL4.out
      have c5 : wc.cell? ⟨Hb, 1, none⟩ = some (.slice (some ⟨g, 0, none⟩) (m + 1) cap) := by rw [h5.hcell.2.1, hl5]
      have f5 : wc.frozen? ⟨Hb, 1, none⟩ = false := by simp [World.frozen?, h5.blk]
      have hcap := h5.cap
      rw [hl5] at hcap
      have h6 := h5.shrink m (by omega)
      rw [← HT.out] at h6
      have V6 := V5.put (j := 1) hHl (.slice (some ⟨g, 0, none⟩) m cap)
      have K6 := K5.setCell (j := 1) (fun _ => .inl rfl) (.slice (some ⟨g, 0, none⟩) m cap)
      have HSK : Hid (Calls Tryz.prog 283 #[.pointer (some ⟨Hb, 0, none⟩), .int .i64 0] (wc.setCell ⟨Hb, 1, none⟩ (.slice (some ⟨g, 0, none⟩) m cap)) fun e w' => e = .returned (.tuple #[]) ∧ HpAt B Hb Lb g cap w' (sinkL (zs.take m) 0) ∧ Vars w.heap.size w' kz tz rz nz ∧ Kp (fun i => i = Hb ∨ i = g) w w') := by
        refine (hsink0 h6 (by rw [List.length_take]; omega)).mono ?_
        rintro e w7 ⟨rfl, h7, k7⟩
        exact ⟨rfl, h7, V6.kp k7 (fun i hi e => by omega), K6.trans k7 (fun i _ e => .inr e)⟩
      clear h5 V5 K5 h6 V6 K6 hl5
      go_wp2_with (go_at_call 283; refine HSK.out.mono ?_; rintro e w7 ⟨rfl, h7, V7, K7⟩; obtain ⟨⟨p0, p1, p2, p3⟩, pf, _, q0, q1, q2, q3⟩ := V7.cells)
      have n1 : Hb ≠ w.heap.size := by omega
      have n2 : Lb ≠ w.heap.size := by omega
      have n3 : g ≠ w.heap.size := by omega
      exact bodyPost_ret (v := .tuple #[.agg #[.int .i64 kz, .int .i64 tz, .int .i64 rz, .int .i64 nz], .bool true]) (by simp [results, Tryz.results233, go_sem, p0, p1, p2, p3]) rfl ⟨rfl, by rw [← HZS.out]; exact (((h7.other n1 n2 n3 _).other n1 n2 n3 _).other n1 n2 n3 _).other n1 n2 n3 _, (((K7.setCell (fun h => by omega) _).setCell (fun h => by omega) _).setCell (fun h => by omega) _).setCell (fun h => by omega) _⟩
end Go.Proofs.YtibofakbhgmhiabGreatDoor
