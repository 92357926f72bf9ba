import Derived.Test.YtibofakbhgmhiabGreatDoorLsF
namespace Go.Proofs.YtibofakbhgmhiabGreatDoor
open Go.RowKit

set_option maxHeartbeats 8000000 in
set_option maxRecDepth 100000 in
theorem grant {B Tb : Nat} {st : Int} {cf : Cf} {w : World} {bk : Bk} {g c : Nat} {vs : List Value} (h : TbAt B Tb st cf w bk (.slice (some ⟨g, 0, none⟩) bk.ts.length c) vs) (hB : B ≤ Tb) (k : Nat) (hk : k < bk.ts.length) (b : Bool) (h1 : bk.gs ≤ 1048576) (h2 : bk.ts[k].gr ≤ 1048576) (h3 : bk.ts[k].live.length ≤ 1048576) :
    Calls Tryz.prog 98 #[.pointer (some ⟨Tb, 2, none⟩), .int .i64 k, .bool b] w fun e w' => e = .returned (.agg #[.int .i64 ((bk.gs : Int) + 1), .int .i64 k, .int .i64 bk.ph, .bool b]) ∧ (∃ vs', TbAt B Tb st cf w' (bk.granted k bk.ts[k]) (.slice (some ⟨g, 0, none⟩) bk.ts.length c) vs') ∧ Below B w w' ∧ Tf w w' := by
  have hTl := lt_of_block h.blk
  obtain ⟨c10, c11, c12, c13, c14, fz⟩ := h.cells
  obtain ⟨d0, d1, d2⟩ := h.ts.cells k hk
  obtain ⟨cur, hg⟩ := h.ts.blk
  have hgl := lt_of_block hg
  have hne := h.apart.1
  have HH := half_at h hB k hk (.cells #[.int .i64 0, .int .i64 0, .int .i64 0, .bool false] 50)
  have HH' : Hid _ := HH
  have f1 : w.frozen? ⟨g, k * 3 + 1, none⟩ = false := by simp [World.frozen?, hg]
  have up : ∀ o, (w.alloc o).cell? ⟨Tb, 11, none⟩ = some (.slice (some ⟨g, 0, none⟩) bk.ts.length c) ∧ (w.alloc o).cell? ⟨Tb, 12, none⟩ = some (.int .i64 bk.gs) ∧ (w.alloc o).cell? ⟨g, k * 3 + 1, none⟩ = some (.int .i64 bk.ts[k].gr) ∧ (w.alloc o).frozen? ⟨Tb, 12, none⟩ = false ∧ (w.alloc o).frozen? ⟨g, k * 3 + 1, none⟩ = false := fun o =>
    ⟨(World.cell?_alloc_lt w o _ hTl).trans c11, (World.cell?_alloc_lt w o _ hTl).trans c12, (World.cell?_alloc_lt w o _ hgl).trans d1, by simp only [World.frozen?, Below.heap_alloc w o Tb hTl]; exact fz 12, by simp only [World.frozen?, Below.heap_alloc w o g hgl]; exact f1⟩
  have u1 := fun o => (up o).1
  have u2 := fun o => (up o).2.1
  have u3 := fun o => (up o).2.2.1
  have u4 := fun o => (up o).2.2.2.1
  have u5 := fun o => (up o).2.2.2.2
  have hkl : (k : Int) < (bk.ts.length : Int) := by omega
  clear HH up h c10 c13 c14 d0 d2 hg
  generalize hT : bk.ts[k] = t at *
  obtain ⟨td, tg, tl⟩ := t
  simp only at d1 u3 h2 h3 HH'
  go_enter Tryz.func98, Tryz.ntmps98
  go_upto_region 3 with fail
  go_cut [7] (fun p wc => p = .pointer (some ⟨g, k * 3, none⟩) ∧ (TbAt B Tb st cf wc (bk.half k ⟨td, tg, tl⟩) (.slice (some ⟨g, 0, none⟩) bk.ts.length c) vs ∧ Below B w wc ∧ Tf w wc ∧ wc.heap[w.heap.size]? = some (.cells #[.int .i64 0, .int .i64 0, .int .i64 0, .bool false] 50 (0, 0))))
  case first =>
    go_wp2_with fail
    go_meet
    exact ⟨rfl, HH'.out⟩
  case rest =>
    obtain ⟨rfl, hH, hbw, htf, hres⟩ := hcut
    clear HH' u1 u2 u3 u4 u5 c11 c12 d1 fz f1
    obtain ⟨i0, hi, hz0, hz1, hz2⟩ := info_parts Tryz.infoAtt
    have hkh : k < (bk.half k ⟨td, tg, tl⟩).ts.length := by simp only [Bk.half, List.length_set]; exact hk
    have hvk : k < vs.length := by rw [hH.ts.len]; exact hkh
    have etk : (bk.half k ⟨td, tg, tl⟩).ts[k] = ⟨td, tg + 1, tl⟩ := by simp [Bk.half]
    obtain ⟨c10, c11, c12, c13, c14, fz⟩ := hH.cells
    obtain ⟨d0, d1, d2⟩ := hH.ts.cells k hkh
    have hlv := hH.ts.live k hkh hvk
    rw [etk] at hlv
    obtain ⟨la, lc, elv⟩ := hown_slice hlv
    obtain ⟨cur, hgc⟩ := hH.ts.blk
    have hgl2 := lt_of_block hgc
    have hTl2 := lt_of_block hH.blk
    have f2 : wc.frozen? ⟨g, k * 3 + 2, none⟩ = false := by simp [World.frozen?, hgc]
    simp only [Bk.half] at c10 c12 c13
    rw [elv] at d2
    have u1 : ∀ o, (wc.alloc o).cell? ⟨g, k * 3 + 2, none⟩ = some (.slice la tl.length lc) := fun o => (World.cell?_alloc_lt wc o _ hgl2).trans d2
    have u2 : ∀ o, (wc.alloc o).frozen? ⟨g, k * 3 + 2, none⟩ = false := fun o => by simp only [World.frozen?, Below.heap_alloc wc o g hgl2]; exact f2
    have u3 : ∀ o, (wc.alloc o).cell? ⟨Tb, 12, none⟩ = some (.int .i64 ((bk.gs : Int) + 1)) := fun o => (World.cell?_alloc_lt wc o _ hTl2).trans (by rw [c12]; simp)
    have u4 : ∀ o, (wc.alloc o).cell? ⟨Tb, 13, none⟩ = some (.int .i64 bk.now) := fun o => (World.cell?_alloc_lt wc o _ hTl2).trans c13
    have c12' : wc.cell? ⟨Tb, 12, none⟩ = some (.int .i64 ((bk.gs : Int) + 1)) := by rw [c12]; simp
    have HO : Hid (((wc.alloc (.cells #[.int .i64 ((bk.gs : Int) + 1), .int .i64 0, .int .i64 bk.now, .int .i64 bk.now] 283)).drew).ownsRow B 283 4 (.slice la tl.length lc) tl.length (ac tl)) := by
      rw [elv] at hlv
      exact hown_below hlv (((Below.refl _ _).alloc (Nat.le_refl _) _).drew)
    have HN : Hid (∀ (j : Nat) (u : Value), [Value.int .i64 ((bk.gs : Int) + 1), .int .i64 0, .int .i64 bk.now, .int .i64 bk.now][j]? = some u → ((wc.alloc (.cells #[.int .i64 ((bk.gs : Int) + 1), .int .i64 0, .int .i64 bk.now, .int .i64 bk.now] 283)).drew).cell? ((⟨wc.heap.size, 0, none⟩ : Addr).add j) = some u) := by
      intro j u hj
      have e : (⟨wc.heap.size, 0, none⟩ : Addr).add j = ⟨wc.heap.size, j, none⟩ := by unfold Addr.add; split <;> simp_all
      rw [e]
      show (wc.alloc _).cell? _ = _
      rw [World.cell?_alloc_at _ _ _ _ (by simp)]
      rcases j with _ | _ | _ | _ | j
      · simpa using hj
      · simpa using hj
      · simpa using hj
      · simpa using hj
      · simp at hj
    have H1 : Hid (∀ u ∈ [Value.int .i64 ((bk.gs : Int) + 1), .int .i64 0, .int .i64 bk.now, .int .i64 bk.now], u.oneCell' = true) := by
      intro u hu; simp at hu; rcases hu with rfl | rfl | rfl | rfl <;> rfl
    have HZ : Hid (((wc.alloc (.cells #[.int .i64 ((bk.gs : Int) + 1), .int .i64 0, .int .i64 bk.now, .int .i64 bk.now] 283)).drew).heap.size = wc.heap.size + 1) := by show _ = _; simp [World.drew]
    have HB : Hid (B ≤ wc.heap.size) := by show _ ≤ _; omega
    have HK : Hid (∀ g2 cap2 w2, World.ownsRow w2 B 283 4 (.slice (some ⟨g2, 0, none⟩) (tl.length + 1) cap2) (tl.length + 1) (ac tl ++ [.int .i64 ((bk.gs : Int) + 1), .int .i64 0, .int .i64 bk.now, .int .i64 bk.now]) → ((wc.alloc (.cells #[.int .i64 ((bk.gs : Int) + 1), .int .i64 0, .int .i64 bk.now, .int .i64 bk.now] 283)).drew).grownBy w2 (Value.slice la tl.length lc).ownBlock → ((Value.slice la tl.length lc).ownBlock = some g2 ∨ g2 = wc.heap.size + 1) →
        (w2.cell? ⟨g, k * 3 + 2, none⟩ = some (.slice la tl.length lc) ∧ w2.frozen? ⟨g, k * 3 + 2, none⟩ = false ∧ w2.cell? ⟨Tb, 12, none⟩ = some (.int .i64 ((bk.gs : Int) + 1)) ∧ w2.cell? ⟨Tb, 13, none⟩ = some (.int .i64 bk.now)) ∧ ∃ W3, W3 = w2.setCell ⟨g, k * 3 + 2, none⟩ (.slice (some ⟨g2, 0, none⟩) (tl.length + 1) cap2) ∧ W3.cell? ⟨Tb, 12, none⟩ = some (.int .i64 ((bk.gs : Int) + 1)) ∧ W3.cell? ⟨Tb, 13, none⟩ = some (.int .i64 bk.now) ∧ W3.cell? ⟨Tb, 10, none⟩ = some (.int .i64 bk.ph) ∧ W3.heap[w.heap.size]? = some (.cells #[.int .i64 0, .int .i64 0, .int .i64 0, .bool false] 50 (0, 0)) ∧
          (∃ vs', TbAt B Tb st cf W3 (bk.granted k ⟨td, tg, tl⟩) (.slice (some ⟨g, 0, none⟩) bk.ts.length c) vs') ∧ Below B w W3 ∧ Tf w W3) := by
      intro g2 cap2 w2 ho hgr hgg
      have := whole_at (w := w) (w2 := w2) hH hkh hvk (.cells #[.int .i64 ((bk.gs : Int) + 1), .int .i64 0, .int .i64 bk.now, .int .i64 bk.now] 283) ⟨bk.gs + 1, 0, bk.now, bk.now⟩ g2 cap2 hbw htf (by rw [etk]; simpa using ho) (by rw [elv]; exact hgr) (by rw [elv]; rcases hgg with e | e; exact .inl e; exact .inr (by omega))
      simp only [etk] at this
      obtain ⟨t1, t2, t3, t4, t5, t6⟩ := this
      rw [elv] at t4
      obtain ⟨e10, _, e12, e13, _⟩ := t1.cells
      simp only [Bk.half] at e10 e12 e13
      have hfar : ∀ j, w2.cell? ⟨Tb, j, none⟩ = (w2.setCell ⟨g, k * 3 + 2, none⟩ (.slice (some ⟨g2, 0, none⟩) (tl.length + 1) cap2)).cell? ⟨Tb, j, none⟩ := fun j => by
        have e : (w2.setCell ⟨g, k * 3 + 2, none⟩ (.slice (some ⟨g2, 0, none⟩) (tl.length + 1) cap2)).heap[Tb]? = w2.heap[Tb]? := Below.heap_setCell w2 ⟨g, k * 3 + 2, none⟩ _ Tb hne
        simp only [World.cell?, e]
      refine ⟨⟨t4, t5, by rw [hfar, e12]; simp, by rw [hfar, e13]⟩, _, rfl, by rw [e12]; simp, e13, e10, t6 _ _ _ _ hres (by decide) (by decide), ⟨vs.set k (.slice (some ⟨g2, 0, none⟩) (tl.length + 1) cap2), ?_⟩, t2, t3⟩
      have eb : (⟨(bk.half k ⟨td, tg, tl⟩).ph, (bk.half k ⟨td, tg, tl⟩).ts.set k ⟨td, tg + 1, tl ++ [⟨bk.gs + 1, 0, bk.now, bk.now⟩]⟩, (bk.half k ⟨td, tg, tl⟩).gs, (bk.half k ⟨td, tg, tl⟩).now, (bk.half k ⟨td, tg, tl⟩).fl⟩ : Bk) = bk.granted k ⟨td, tg, tl⟩ := by
        simp [Bk.half, Bk.granted, Tk.granted]
      rw [← eb]
      exact t1
    clear hH c12 hlv elv hgc etk hbw htf hres d0 d1 c10 c14
    go_upto_region 4 with fail
    go_cut [7] (fun p wd => p = .pointer (some ⟨g, k * 3, none⟩) ∧ wd.cell? ⟨Tb, 12, none⟩ = some (.int .i64 ((bk.gs : Int) + 1)) ∧ wd.cell? ⟨Tb, 10, none⟩ = some (.int .i64 bk.ph) ∧ wd.heap[w.heap.size]? = some (.cells #[.int .i64 0, .int .i64 0, .int .i64 0, .bool false] 50 (0, 0)) ∧ (∃ vs', TbAt B Tb st cf wd (bk.granted k ⟨td, tg, tl⟩) (.slice (some ⟨g, 0, none⟩) bk.ts.length c) vs') ∧ Below B w wd ∧ Tf w wd)
    case first =>
      go_region_law (refine step_append_lies _ rfl (.tmp 32) (.tmp 46) 203 rfl B 283 i0 (.agg #[.int .i64 0, .int .i64 0, .int .i64 0, .int .i64 0]) 4 32 Tryz.underlying203 hi hz0 hz1 hz2 rfl (by decide) (.slice la tl.length lc) tl.length (ac tl) (by simp [Act.eval]) HO.out ⟨wc.heap.size, 0, none⟩ 1 1 [.int .i64 ((bk.gs : Int) + 1), .int .i64 0, .int .i64 bk.now, .int .i64 bk.now] (by simp [Act.eval]) rfl HN.out H1.out (by decide) (by unfold maxLen; omega) (by omega) (by rw [HZ.out]; have := HB.out; omega) (wc.heap.size + 1) HZ.out ?_; intro g2 cap2 w2 hown2 hg2 hgg hlt2; obtain ⟨⟨q1, q2, q3, q4⟩, W3, hW3, q5, q6, q7, q8, q9, q10, q11⟩ := HK.out g2 cap2 w2 hown2 hg2 hgg)
      all_goals (go_wp2_with fail)
      all_goals go_meet
      all_goals (subst hW3; exact ⟨rfl, q5, q7, q8, q9, q10, q11⟩)
    case rest =>
      obtain ⟨rfl, q5, q7, q8, q9, q10, q11⟩ := hcut
      clear HK HO HN H1 HZ u1 u2 u3 u4
      rename World => W
      have HFIN : Hid (∀ (a0 a1 a2 a3 : Value), (∃ vs', TbAt B Tb st cf ((((W.setCell ⟨w.heap.size, 0, none⟩ a0).setCell ⟨w.heap.size, 1, none⟩ a1).setCell ⟨w.heap.size, 2, none⟩ a2).setCell ⟨w.heap.size, 3, none⟩ a3) (bk.granted k ⟨td, tg, tl⟩) (.slice (some ⟨g, 0, none⟩) bk.ts.length c) vs') ∧ Below B w ((((W.setCell ⟨w.heap.size, 0, none⟩ a0).setCell ⟨w.heap.size, 1, none⟩ a1).setCell ⟨w.heap.size, 2, none⟩ a2).setCell ⟨w.heap.size, 3, none⟩ a3) ∧ Tf w ((((W.setCell ⟨w.heap.size, 0, none⟩ a0).setCell ⟨w.heap.size, 1, none⟩ a1).setCell ⟨w.heap.size, 2, none⟩ a2).setCell ⟨w.heap.size, 3, none⟩ a3)) := fun a0 a1 a2 a3 => grant_end q8 q9 q10 q11 (by omega) a0 a1 a2 a3
      have r0 : W.cell? ⟨w.heap.size, 0, none⟩ = some (.int .i64 0) := by simp [World.cell?, q8]
      have r1 : W.cell? ⟨w.heap.size, 1, none⟩ = some (.int .i64 0) := by simp [World.cell?, q8]
      have r2 : W.cell? ⟨w.heap.size, 2, none⟩ = some (.int .i64 0) := by simp [World.cell?, q8]
      have r3 : W.cell? ⟨w.heap.size, 3, none⟩ = some (.bool false) := by simp [World.cell?, q8]
      have rf : ∀ j, W.frozen? ⟨w.heap.size, j, none⟩ = false := by simp [World.frozen?, q8]
      clear q8 q9 q10 q11
      go_wp2_with fail
      go_region
      all_goals
        go_wp2_with fail
        exact bodyPost_ret (v := .agg #[.int .i64 ((bk.gs : Int) + 1), .int .i64 k, .int .i64 bk.ph, .bool b]) (by simp [results, Tryz.results98, go_sem, r0, r1, r2, r3]) rfl ⟨rfl, by
          obtain ⟨⟨vs', f1⟩, f2, f3⟩ := HFIN.out (.int .i64 ((bk.gs : Int) + 1)) (.int .i64 k) (.int .i64 bk.ph) (.bool b)
          exact ⟨⟨vs', f1.below (Below.refl _ _).drew⟩, f2.drew, f3.drew⟩⟩
end Go.Proofs.YtibofakbhgmhiabGreatDoor
